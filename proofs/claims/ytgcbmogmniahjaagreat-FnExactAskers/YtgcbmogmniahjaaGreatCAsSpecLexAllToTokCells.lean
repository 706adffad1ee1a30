/-
  What spec.Lex answers: the walk.
  The cells of a token that lies in a row. No program is spoken of.
-/
import Derived.Test.YtgcbmogmniahjaaGreatCAsSpecLex
import Derived.Test.YtgcbmogmniahjaaGreatCAsTokMem
namespace Go.Proofs.YtgcbmogmniahjaaGreat
set_option maxRecDepth 100000
set_option maxHeartbeats 3200000
open Go.RowKit Go.PlainAid
theorem Tryz.infoTok:(Tryz.prog.info? 158).map (fun i=>(i.zero,i.size,i.bytes))=some (some (.agg #[.int .i64 0,.string {data:=#[]},.int .i64 0,.int .i64 0]),4,40):=by kernel_rfl
def zot (s:ByteArray) (scr:Bool) (w:World) (e:Ending) (w':World):Prop:=
 ∃r,zam s scr r∧match r with
  | .ok ts=>∃g n cap,e= .returned (.tuple #[.slice (some ⟨g,0,none⟩) n cap,.int .i64 (-1)])∧OwnT w' w.heap.size 158 g n cap ts
  | .error p=>∃g cap,e= .returned (.tuple #[.slice (some ⟨g,0,none⟩) 0 cap,.int .i64 p])∧OwnT w' w.heap.size 158 g 0 cap []
theorem zf7 {s:ByteArray} {q:Bool} {k n:Nat} {w:List Tk} (h: ∀r,Lx s q k n r→zam s q (r.map (w++ ·))) (z:k<s.size) (A:4000≤n∨∀t e,¬Tok s q k t e):zam s q (.error k):=h _ (.bad z A)
theorem zjN {s:ByteArray} {q:Bool} {k n:Nat} {w:List Tk} (h: ∀r,Lx s q k n r→zam s q (r.map (w++ ·))) (z:k=s.size):zam s q (.ok w):=by
 subst z
 have:=h _ .done
 simpa [Except.map] using this
theorem zjO {s:ByteArray} {q:Bool} {k n e b:Nat} {t:Tk} {w:List Tk} (h: ∀r,Lx s q k n r→zam s q (r.map (w++ ·))) (z:k<s.size) (H:n<4000) (D:Tok s q k t e) (E:Skip s e b):
  ∀r,Lx s q b (n+1) r→zam s q (r.map ((w++[t])++ ·)):=by
 intro r A
 have:=h _ (.tok z H D E A)
 cases r<;>simpa [Except.map] using this
theorem zjP {w:World} {o:Obj} {e:TypeId} {base:Nat} (h:base≤w.heap.size):OwnT ((w.alloc o).alloc (.cells #[] e)) base e (w.heap.size+1) 0 0 []:=by
 have:=zh9 (w.alloc o) e base (by rw[zg];omega)
 rw[zg] at this
 exact this
theorem zou (s:ByteArray) (h:Bool) (w:World) (hs:s.size≤4294967296):
  Calls Tryz.prog 81 #[.string s,.bool h] w fun e w'=>zot s h w e w'∧Below w.heap.size w w':=by
 obtain⟨i0,hi,ag,ai,ak⟩:=info_parts Tryz.infoTok
 go_enter Tryz.func81,Tryz.ntmps81
 go_wp2_with fail
 refine (zjK _ 0 _ (Nat.zero_le _) hs).mono ?_
 rintro e w' ⟨k0,rfl,A,rfl⟩
 have an:Hid (Skip s 0 k0):=A
 have ah:=(zh1 A).2
 clear A
 go_wp2
 go_loopw [6,7,8,9] (fun o i _ _ wr=>∃(k n g E:Nat) (J:List Tk),k≤s.size∧n≤4000∧i= .int .i64 k∧o= .slice (some ⟨g,0,none⟩) n E∧OwnT wr w.heap.size 158 g n E J∧(∀r,Lx s h k n r→zam s h (r.map (J++ ·)))∧Below w.heap.size w wr) (fun _ i _ _ _=>(s.size-intOf i).toNat)
 case atStart=>exact⟨k0,0,w.heap.size,0,[],ah,by omega,rfl,rfl,zh9 w _ _ (Nat.le_refl _),fun r hr=>⟨k0,an.out,by cases r<;>simpa [Except.map] using hr⟩,(Below.refl _ _).alloc (Nat.le_refl _) _⟩
 case round=>
  obtain⟨k,n,g,E,J,hk,hn,rfl,rfl,H,X,hb⟩:=hrel
  have I:Hid (∀r,Lx s h k n r→zam s h (r.map (J++ ·))):=X
  have aq:=zaw H
  clear X
  by_cases D:k<s.size
  ·go_wp2_with fail
   refine (zos _ _ _ _ D hs).mono ?_
   rintro e w1 ⟨v,z,rfl,ac,ad⟩
   have q:=hb.trans (ad.mono hb.size)
   have M:=zc3 H ad
   rcases ac with ⟨⟨O,V,N,U⟩,m,rfl,rfl,ht⟩|⟨rfl,⟨c1,c2,c3,c4,rfl⟩,af⟩
   ·have HT:Hid (Tok s h k ⟨O,V,N,U⟩ m):=ht
    have ar:=(zeI D ht).1
    have aj:=(zeI D ht).2.1
    clear ht
    by_cases ae:n<4000
    ·have q4:decide ((4000:Int)≤(n:Int))=false:=decide_eq_false (by omega)
     obtain⟨W,Y⟩: ∃W,W=w1.alloc (.cells #[.int .i64 O,.string V,.int .i64 N,.int .i64 U] 158):=⟨_,rfl⟩
     have HW:Hid (W=w1.alloc (.cells #[.int .i64 O,.string V,.int .i64 N,.int .i64 U] 158)):=Y
     have Z:Below w.heap.size w W:=by rw[Y];exact q.alloc q.size _
     have K:OwnT W w.heap.size 158 g n E J:=by rw[Y];exact zc3 M ((Below.refl _ _).alloc (Nat.le_refl _) _)
     have ab:=Z.size
     have al:Hid (w1.heap.size+1=W.heap.size):=by show _=_;rw[Y,zg]
     clear Y
     simp only[tkV]
     go_wp2_with (first|(at_builtin;rw[←HW.out];refine znY W rfl _ _ 117 rfl w.heap.size 158 i0 _ Tryz.underlying117 hi ag ai ak rfl g n E J (by rfl) K ⟨O,V,N,U⟩ (w1.heap.size+1) al.out (by rfl) (by omega) ab ?_))
     intro g2 aa w2 L ap
     have ao:=Z.trans ap
     go_wp2_with fail
     refine (zjK _ m _ aj hs).mono ?_
     rintro e w3 ⟨b,rfl,A,rfl⟩
     have HX:Hid (∀r,Lx s h b (n+1) r→zam s h (r.map ((J++[⟨O,V,N,U⟩])++ ·))):=zjO I.out D ae HT.out A
     have au:=(zh1 A).1
     have am:=(zh1 A).2
     clear A
     go_wp2
     go_roundw
     case rel=>exact⟨b,n+1,g2,aa,J++[⟨O,V,N,U⟩],am,by omega,rfl,rfl,L,HX.out,ao⟩
     case measure=>simp[intOf];omega
    ·have q4:decide ((4000:Int)≤(n:Int))=true:=decide_eq_true (by omega)
     have HE:Hid (zam s h (.error k)):=zf7 I.out D (.inl (by omega))
     simp only[tkV]
     go_wp2
     go_ret2
     exact⟨⟨_,HE.out,_,_,rfl,zjP q.size⟩,(q.alloc q.size _).alloc (by rw[zg];have:=q.size;omega) _⟩
   ·have HE:Hid (zam s h (.error k)):=zf7 I.out D (.inr af)
    go_wp2
    go_ret2
    exact⟨⟨_,HE.out,_,_,rfl,zjP q.size⟩,(q.alloc q.size _).alloc (by rw[zg];have:=q.size;omega) _⟩
  ·have HE:Hid (zam s h (.ok J)):=zjN I.out (by omega)
   go_wp2
   go_ret2
   exact⟨⟨_,HE.out,g,n,E,rfl,H⟩,hb⟩
theorem OwnT.cells {w:World} {base g n A:Nat} {e:TypeId} {z:List Tk} (h:OwnT w base e g n A z) {j:Nat} (N:j<n) {d:Tk}:
  w.cell? ⟨g,j*4,none⟩=some (.int .i64 (z.getD j d).kind)∧w.cell? ⟨g,j*4+1,none⟩=some (.string (z.getD j d).text)∧w.cell? ⟨g,j*4+2,none⟩=some (.int .i64 (z.getD j d).num)∧w.cell? ⟨g,j*4+3,none⟩=some (.int .i64 (z.getD j d).pos):=by
 have M:=h.2
 have q: ∀(l:List Tk) (i c:Nat),c<4→i<l.length→(l.flatMap tkL)[i*4+c]? =(tkL (l.getD i d))[c]?:=by
  intro l
  induction l with
  |nil=>intro i c _ D;simp at D
  |cons x l H=>
   intro i c K D
   match i with
   |0=>
    simp only[List.flatMap_cons,Nat.zero_mul,Nat.zero_add,List.getD_cons_zero]
    rw[List.getElem?_append_left (by simp[tkL];omega)]
   |i+1=>
    simp only[List.flatMap_cons,List.getD_cons_succ]
    rw[List.getElem?_append_right (by simp[tkL];omega)]
    have:(i+1)*4+c-(tkL x).length=i*4+c:=by simp[tkL];omega
    rw[this]
    exact H i c K (by simpa using D)
 have J:=q z j 0 (by omega) (by omega)
 have L:=q z j 1 (by omega) (by omega)
 have E:=q z j 2 (by omega) (by omega)
 have I:=q z j 3 (by omega) (by omega)
 rw[h.1.cellAt _ (by omega),h.1.cellAt _ (by omega),h.1.cellAt _ (by omega),h.1.cellAt _ (by omega)]
 exact⟨J,L,E,I⟩
end Go.Proofs.YtgcbmogmniahjaaGreat
