/-
  What spec.Lex answers: the walk.
  The cells of a token that lies in a row. No program is spoken of.
-/
import Derived.Test.YtcidlffeeninbaaGreatClSpecLex
import Derived.Test.YtcidlffeeninbaaGreatClTokMem
namespace Go.Proofs.YtcidlffeeninbaaGreat
set_option maxRecDepth 100000
set_option maxHeartbeats 3200000
open Go.RowKit Go.PlainAid
theorem Tryz.infoTok:(Tryz.prog.info? 136).map (fun i=>(i.zero,i.size,i.bytes))=some (some (.agg #[.int .i64 0,.string {data:=#[]},.int .i64 0,.int .i64 0]),4,40):=by kernel_rfl
def znl (s:ByteArray) (scr:Bool) (w:World) (e:Ending) (w':World):Prop:=
 ∃r,zaj s scr r∧match r with
  | .ok ts=>∃g n cap,e= .returned (.tuple #[.slice (some ⟨g,0,none⟩) n cap,.int .i64 (-1)])∧OwnT w' w.heap.size 136 g n cap ts
  | .error p=>∃g cap,e= .returned (.tuple #[.slice (some ⟨g,0,none⟩) 0 cap,.int .i64 p])∧OwnT w' w.heap.size 136 g 0 cap []
theorem zfm {s:ByteArray} {q:Bool} {k n:Nat} {w:List Tk} (h: ∀r,Lx s q k n r→zaj s q (r.map (w++ ·))) (z:k<s.size) (A:4000≤n∨∀t e,¬Tok s q k t e):zaj s q (.error k):=h _ (.bad z A)
theorem zjb {s:ByteArray} {q:Bool} {k n:Nat} {w:List Tk} (h: ∀r,Lx s q k n r→zaj s q (r.map (w++ ·))) (z:k=s.size):zaj s q (.ok w):=by
 subst z
 have:=h _ .done
 simpa [Except.map] using this
theorem zjc {s:ByteArray} {q:Bool} {k n e b:Nat} {t:Tk} {w:List Tk} (h: ∀r,Lx s q k n r→zaj s q (r.map (w++ ·))) (E:k<s.size) (A:n<4000) (z:Tok s q k t e) (D:Skip s e b):
  ∀r,Lx s q b (n+1) r→zaj s q (r.map ((w++[t])++ ·)):=by
 intro r H
 have:=h _ (.tok E A z D H)
 cases r<;>simpa [Except.map] using this
theorem zjd {w:World} {o:Obj} {e:TypeId} {h:Nat} (q:h≤w.heap.size):OwnT ((w.alloc o).alloc (.cells #[] e)) h e (w.heap.size+1) 0 0 []:=by
 have:=zhd (w.alloc o) e h (by rw[zg];omega)
 rw[zg] at this
 exact this
theorem znm (s:ByteArray) (h:Bool) (w:World) (hs:s.size≤4294967296):
  Calls Tryz.prog 52 #[.string s,.bool h] w fun e w'=>znl s h w e w'∧Below w.heap.size w w':=by
 obtain⟨i0,hi,aj,ai,ah⟩:=info_parts Tryz.infoTok
 go_enter Tryz.func52,Tryz.ntmps52
 go_wp2_with fail
 refine (ziY _ 0 _ (Nat.zero_le _) hs).mono ?_
 rintro e w' ⟨k0,rfl,A,rfl⟩
 have ao:Hid (Skip s 0 k0):=A
 have ae:=(zgV A).2
 clear A
 go_wp2
 go_loopw [6,7,8,9] (fun o i _ _ wr=>∃(k n g E:Nat) (J:List Tk),k≤s.size∧n≤4000∧i= .int .i64 k∧o= .slice (some ⟨g,0,none⟩) n E∧OwnT wr w.heap.size 136 g n E J∧(∀r,Lx s h k n r→zaj s h (r.map (J++ ·)))∧Below w.heap.size w wr) (fun _ i _ _ _=>(s.size-intOf i).toNat)
 case atStart=>exact⟨k0,0,w.heap.size,0,[],ae,by omega,rfl,rfl,zhd w _ _ (Nat.le_refl _),fun r hr=>⟨k0,ao.out,by cases r<;>simpa [Except.map] using hr⟩,(Below.refl _ _).alloc (Nat.le_refl _) _⟩
 case round=>
  obtain⟨k,n,g,E,J,hk,hn,rfl,rfl,H,Z,hb⟩:=hrel
  have I:Hid (∀r,Lx s h k n r→zaj s h (r.map (J++ ·))):=Z
  have aq:=zau H
  clear Z
  by_cases D:k<s.size
  ·go_wp2_with fail
   refine (znk _ _ _ _ D hs).mono ?_
   rintro e w1 ⟨v,z,rfl,aa,ad⟩
   have q:=hb.trans (ad.mono hb.size)
   have M:=zcx H ad
   rcases aa with ⟨⟨N,O,V,U⟩,m,rfl,rfl,ht⟩|⟨rfl,⟨c1,c2,c3,c4,rfl⟩,am⟩
   ·have HT:Hid (Tok s h k ⟨N,O,V,U⟩ m):=ht
    have ar:=(ze1 D ht).1
    have af:=(ze1 D ht).2.1
    clear ht
    by_cases ak:n<4000
    ·have q4:decide ((4000:Int)≤(n:Int))=false:=decide_eq_false (by omega)
     obtain⟨W,hW⟩: ∃W,W=w1.alloc (.cells #[.int .i64 N,.string O,.int .i64 V,.int .i64 U] 136):=⟨_,rfl⟩
     have HW:Hid (W=w1.alloc (.cells #[.int .i64 N,.string O,.int .i64 V,.int .i64 U] 136)):=hW
     have ac:Below w.heap.size w W:=by rw[hW];exact q.alloc q.size _
     have L:OwnT W w.heap.size 136 g n E J:=by rw[hW];exact zcx M ((Below.refl _ _).alloc (Nat.le_refl _) _)
     have X:=ac.size
     have al:Hid (w1.heap.size+1=W.heap.size):=by show _=_;rw[hW,zg]
     clear hW
     simp only[tkV]
     go_wp2_with (first|(at_builtin;rw[←HW.out];refine zmQ W rfl _ _ 97 rfl w.heap.size 136 i0 _ Tryz.underlying97 hi aj ai ah rfl g n E J (by rfl) L ⟨N,O,V,U⟩ (w1.heap.size+1) al.out (by rfl) (by omega) X ?_))
     intro g2 ab w2 K ag
     have an:=ac.trans ag
     go_wp2_with fail
     refine (ziY _ m _ af hs).mono ?_
     rintro e w3 ⟨b,rfl,A,rfl⟩
     have HX:Hid (∀r,Lx s h b (n+1) r→zaj s h (r.map ((J++[⟨N,O,V,U⟩])++ ·))):=zjc I.out D ak HT.out A
     have au:=(zgV A).1
     have ap:=(zgV A).2
     clear A
     go_wp2
     go_roundw
     case rel=>exact⟨b,n+1,g2,ab,J++[⟨N,O,V,U⟩],ap,by omega,rfl,rfl,K,HX.out,an⟩
     case measure=>simp[intOf];omega
    ·have q4:decide ((4000:Int)≤(n:Int))=true:=decide_eq_true (by omega)
     have Y:Hid (zaj s h (.error k)):=zfm I.out D (.inl (by omega))
     simp only[tkV]
     go_wp2
     go_ret2
     exact⟨⟨_,Y.out,_,_,rfl,zjd q.size⟩,(q.alloc q.size _).alloc (by rw[zg];have:=q.size;omega) _⟩
   ·have Y:Hid (zaj s h (.error k)):=zfm I.out D (.inr am)
    go_wp2
    go_ret2
    exact⟨⟨_,Y.out,_,_,rfl,zjd q.size⟩,(q.alloc q.size _).alloc (by rw[zg];have:=q.size;omega) _⟩
  ·have Y:Hid (zaj s h (.ok J)):=zjb I.out (by omega)
   go_wp2
   go_ret2
   exact⟨⟨_,Y.out,g,n,E,rfl,H⟩,hb⟩
theorem OwnT.cells {w:World} {A g n E:Nat} {e:TypeId} {q:List Tk} (h:OwnT w A e g n E q) {j:Nat} (O:j<n) {d:Tk}:
  w.cell? ⟨g,j*4,none⟩=some (.int .i64 (q.getD j d).kind)∧w.cell? ⟨g,j*4+1,none⟩=some (.string (q.getD j d).text)∧w.cell? ⟨g,j*4+2,none⟩=some (.int .i64 (q.getD j d).num)∧w.cell? ⟨g,j*4+3,none⟩=some (.int .i64 (q.getD j d).pos):=by
 have N:=h.2
 have z: ∀(l:List Tk) (i c:Nat),c<4→i<l.length→(l.flatMap tkL)[i*4+c]? =(tkL (l.getD i d))[c]?:=by
  intro l
  induction l with
  |nil=>intro i c _ D;simp at D
  |cons x l M=>
   intro i c J D
   match i with
   |0=>
    simp only[List.flatMap_cons,Nat.zero_mul,Nat.zero_add,List.getD_cons_zero]
    rw[List.getElem?_append_left (by simp[tkL];omega)]
   |i+1=>
    simp only[List.flatMap_cons,List.getD_cons_succ]
    rw[List.getElem?_append_right (by simp[tkL];omega)]
    have:(i+1)*4+c-(tkL x).length=i*4+c:=by simp[tkL];omega
    rw[this]
    exact M i c J (by simpa using D)
 have K:=z q j 0 (by omega) (by omega)
 have L:=z q j 1 (by omega) (by omega)
 have I:=z q j 2 (by omega) (by omega)
 have H:=z q j 3 (by omega) (by omega)
 rw[h.1.cellAt _ (by omega),h.1.cellAt _ (by omega),h.1.cellAt _ (by omega),h.1.cellAt _ (by omega)]
 exact⟨K,L,I,H⟩
end Go.Proofs.YtcidlffeeninbaaGreat
