/-
  What spec's l4Export answers to a list of names: the walks.
  What spec's l4Item answers: the walks.
  What spec's l4Item answers outside of a script: the walks.
  What spec.Parse answers: the walk.
-/
import Derived.Test.YtjdddblpfbmpaaaGreatCoSpecParseLToSpecParseN
namespace Go.Proofs.YtjdddblpfbmpaaaGreat
set_option maxRecDepth 100000
set_option maxHeartbeats 6400000
open Go.RowKit Go.PlainAid
theorem zpK (C:Cx) (H A h:Nat) (S:Sv) (q:PS) (w:World) (hm:Mem C H A h S q w) (hw:isT C q.pos 1 zab=true) (h1:isT C (q.pos+1) 4 zF=true):
  Calls Tryz.prog 107 #[pv C H A S q (-1) 0] w (Out C H A h (zae C q) 0 S w):=by
 have HM:=zc hm
 have an:=hm.few
 clear hm
 have HV:Hid (zae C q=bd (zcw C true (adv q)) fun a=>if !za4 a.2&& !isT C a.1.pos 1 zO then bd (zd C 4 cSemi a.1) fun q=>zQ (fun e=>zn C (zz e)) a.2 (.ok q) else bd (zaN C (za8 C (.ok a.1))) fun b=>zQ (fun e=>zn C (zak b.2 e)) a.2 (.ok b.1)):=by
  show _=_
  rw[zae,zd,if_pos hw,zx]
  rw[zw,h1]
  rfl
 unfold pv
 go_enter Tryz.func107,Tryz.ntmps107
 go_wp2_with fail
 refine (zaA C H A h (.ok q) S q (-1) 0 zab _ (zT q) ((HM.out.alloc _).alloc _)).mono ?_
 rintro e w1 ⟨S1,q1,z1,rfl,av,m1,s1⟩
 have F:=HM.out.fm2 m1 s1
 obtain⟨ap,rfl⟩:=zcC av.out hw
 have HQ:=zc ap
 have ar:Hid (q1.pos=q.pos+1):=by show q1.pos=q.pos+1;rw[ap];rfl
 clear ap av
 have N:=F.x0.boxC
 unfold pv
 go_upto_region 2 with fail
 refine (F.put0 ..).cut ?_
 clear N
 intro w2 F
 have aq:Hid (zae C q=bd (zcw C true q1) fun a=>if !za4 a.2&& !isT C a.1.pos 1 zO then bd (zd C 4 cSemi a.1) fun q=>zQ (fun e=>zn C (zz e)) a.2 (.ok q) else bd (zaN C (za8 C (.ok a.1))) fun b=>zQ (fun e=>zn C (zak b.2 e)) a.2 (.ok b.1)):=by show _=_;rw[HQ.out];exact HV.out
 have N:=F.x0.boxC
 go_wp2_with fail
 refine (zg C H A h S1 q1 (-1) 0 4 zF _ F.m.tok an (by decide)).mono ?_
 rintro e w3 ⟨rfl,aA⟩
 rw[ar.out,h1]
 replace F:=F.below aA
 clear N
 have N:=F.x0.boxC
 clear ar
 have ay:=F.t.size
 go_wp2_with fail
 refine (zje C H A h S1 q1 0 true _ F.m).mono ?_
 rintro e w4 ⟨S4,q4,z4,⟨ra,rc⟩,l,rfl,i4,m4,s4,R0,hl⟩
 obtain⟨g,rfl⟩: ∃g,ra=some ⟨g,0,none⟩:=R0.addr
 replace F:=F.stp m4 s4
 have aa:=zc i4
 clear N
 have n:Hid (Row S4 w4 h w.heap.size ⟨some ⟨g,0,none⟩,rc⟩ l):=⟨R0.own,R0.free,fun k hk=>Nat.le_trans ay (R0.new k hk),R0.addr⟩
 clear R0
 have aB:w.heap.size+1<w4.heap.size:=F.x1.lt
 unfold pv
 go_upto_region 4 with fail
 refine (F.new2 _).cutR (RW:=fun W=>Row S4 W h w.heap.size ⟨some ⟨g,0,none⟩,rc⟩ l) (n.out.alloc _) ?_
 clear n
 intro w5 F R0
 have n:=zc R0
 clear R0
 cases hA:za4 l with
 |true=>
  skip
  obtain⟨c0,c1,c2,c3,c4,c5,c6,c7,c8,c9,U,V,cf⟩:=F.x2.box
  go_wp2_with fail
  refine (zaA C H A h _ S4 q4 z4 0 zO _ aa.out.fst F.m).mono ?_
  rintro e w6 ⟨S6,q6,z6,rfl,az,m6,s6⟩
  replace n:=zc (n.out.stp s6)
  replace F:=F.stp m6 s6
  clear c0 c1 c2 c3 c4 c5 c6 c7 c8 c9 U V cf
  go_wp2_with fail
  refine (zdw C H A h _ S6 q6 z6 0 _ az.out F.m).mono ?_
  rintro e w7 ⟨S7,q7,z7,n7,rfl,ah,m7,s7⟩
  replace n:=zc (n.out.stp s7)
  replace F:=F.stp m7 s7
  have aw:w.heap.size+1<w7.heap.size:=F.x1.lt
  have ao:w4.heap.size<w7.heap.size:=F.x2.lt
  unfold pv
  go_upto_region 12 with fail
  refine (F.new3 _).cutR (RW:=fun W=>Row S7 W h w.heap.size ⟨some ⟨g,0,none⟩,rc⟩ l) (n.out.alloc _) ?_
  clear n
  intro w8 F R0
  have n:=zc R0
  clear R0
  obtain⟨d0,d1,d2,d3,d4,d5,d6,d7,d8,d9,X,O,df⟩:=F.x3.box
  go_wp2_with fail
  refine (zZ C H A h _ S7 q7 z7 0 cSemi _ ah.out.fst F.m).mono ?_
  rintro e w9 ⟨S9,q9,z9,rfl,J,m9,s9⟩
  replace n:=zc (n.out.stp s9)
  replace F:=F.stp m9 s9
  clear d0 d1 d2 d3 d4 d5 d6 d7 d8 d9 X O df
  have N:=F.x0.boxC
  unfold pv
  go_upto_region 13 with fail
  refine (F.put0 ..).cutR (RW:=fun W=>Row S9 W h w.heap.size ⟨some ⟨g,0,none⟩,rc⟩ l) (n.out.put F.x0 ..) ?_
  clear N
  clear n
  intro ai F R0
  have n:=zc R0
  clear R0
  have ak:Hid (_=zae C q):=(zg0 (G:=fun b e=>zn C (zak b e)) aa.out ah.out).trans ((zjv aa.out (.inl hA)).trans aq.out.symm)
  go_wp2
  go_loopg [9] l.length (fun k i wr=>∃(j:Nat) (x':PR) (z:Sv) (E:PS) (z':Int),j≤l.length∧i= .int .i64 j∧Is x' E z'∧(z'<0→1≤E.pos)∧zQ (fun e=>zn C (zak n7 e)) (l.drop j) x'=zae C q∧l.length-j=k∧Mem C H A h z E wr∧SB w.heap.size S w z wr∧Bx H z wr w.heap.size #[.slice (some ⟨H,0,none⟩) C.ts.length A,.int .i64 E.pos,.int .i64 C.fin,.bool C.scr,.slice z.rq.a E.rq.length z.rq.cap,.slice z.im.a E.im.length z.im.cap,.slice z.ep.a E.ep.length z.ep.cap,.slice z.st.a E.st.length z.st.cap,.slice z.ex.a E.ex.length z.ex.cap,.slice z.la.a E.la.length z.la.cap,.int .i64 z',.int .i64 0]∧Bx H z wr (w.heap.size+1) #[.slice none 0 0,.int .i64 0,.int .i64 0,.bool false,.slice none 0 0,.slice none 0 0,.slice none 0 0,.slice none 0 0,.slice none 0 0,.slice none 0 0,.int .i64 0,.int .i64 0]∧Row z wr h w.heap.size ⟨some ⟨g,0,none⟩,rc⟩ l)
  case atStart=>exact⟨0,_,S9,q9,z9,Nat.zero_le _,rfl,J.out,zaX J.out,ak.out,rfl,F.m,F.t,F.x0,F.x1,n.out⟩
  case round=>
   obtain⟨j,x9,S9,q9,z9,hj,rfl,i9,p9,e9,g9,m9,t9,X0,X1,R0⟩:=hrel
   clear n
   have F:=Fm.of2 X0 X1 m9 t9 (by omega) (by omega) (by omega)
   have J:=zc i9
   have ac:=zc p9
   have Y:=zc e9
   have af:=zc g9
   have n:=zc R0
   clear X0 X1 i9 m9 t9 e9 g9 R0 p9
   by_cases Z:j<l.length
   ·skip
    obtain⟨c1,c2⟩:=n.out.cells (g:=g) rfl Z
    have au:=n.out.own.lt (g:=g) rfl
    have HX:Hid (∀e,e=l[j]→zQ (fun e=>zn C (zak n7 e)) (l.drop (j+1)) (bd x9 (zn C (zak n7 e)))=zae C q):=fun e he=>by rw[he,←Y.out];exact (zfz (fun e=>zn C (zak n7 e)) l x9 Z).symm
    generalize ad:l[j]=el at c1 c2
    have al:Hid (el=l[j]):=ad.symm
    clear ad
    have N:=F.x0.boxC
    go_upto_region 16 with fail
    go_region_law (first|(go_simp;go_wp2_with (go_at_call 148;refine (zdk C H A h x9 S9 q9 z9 0 (zak n7 el) _ J.out F.m.drew ac.out).mono ?_;rintro e ai ⟨L,aj,ag,rfl,ae,M,I⟩;obtain⟨d0,d1,d2,d3,d4,d5,d6,d7,d8,d9,X,O,df⟩:=(F.x0.stp I.undrew).box;unfold pv)))
    all_goals
     clear N d0 d1 d2 d3 d4 d5 d6 d7 d8 d9 X O df
     have D:=zc ae
     have K:Hid (Stp S9 wr L ai):=I.undrew
     replace F:=F.stp M K.out
     clear ae M I
     go_wp2
     go_roundg (gk-1)
     case rel=>exact⟨j+1,_,L,aj,ag,by omega,by go_num,D.out,zg1 ac.out J.out D.out,HX.out el al.out,by have:=af.out;omega,F.m.put F.x0 _ _ _ _ _ _ _ _ _ _ _ _,F.t.put (by omega) _ _ _ _ _ _ _ _ _ _ _ _,F.x0.put _ _ _ _ _ _ _ _ _ _ _ _,F.x1.other (by omega) _ _ _ _ _ _ _ _ _ _ _ _,(n.out.stp K.out).put F.x0 _ _ _ _ _ _ _ _ _ _ _ _⟩
     case measure=>have:=af.out;omega
   ·skip
    have N:=F.x0.boxC
    have bb:=F.x1.boxC
    go_wp2
    refine (F.x1.put ..).ret rfl rfl ?_
    exact (F.put1 ..).done rfl (show Is (zae C q) q9 z9 from by rw[←Y.out,List.drop_eq_nil_of_le (by omega)];exact J.out)
 |false=>
  cases hF:(decide (z4<0)&&isT C q4.pos 1 zO) with
  |true=>
   obtain⟨c0,c1,c2,c3,c4,c5,c6,c7,c8,c9,U,V,cf⟩:=F.x2.box
   go_wp2_with fail
   refine (zg C H A h S4 q4 z4 0 1 zO _ F.m.tok an (by decide)).mono ?_
   rintro e w6 ⟨rfl,am⟩
   rw[hF]
   replace n:=zc (n.out.below am)
   replace F:=F.below am
   clear c0 c1 c2 c3 c4 c5 c6 c7 c8 c9 U V cf
   obtain⟨c0,c1,c2,c3,c4,c5,c6,c7,c8,c9,U,V,cf⟩:=F.x2.box
   go_wp2_with fail
   refine (zaA C H A h _ S4 q4 z4 0 zO _ aa.out.fst F.m).mono ?_
   rintro e w7 ⟨S7,q7,z7,rfl,ah,m7,s7⟩
   replace n:=zc (n.out.stp s7)
   replace F:=F.stp m7 s7
   clear c0 c1 c2 c3 c4 c5 c6 c7 c8 c9 U V cf
   go_wp2_with fail
   refine (zdw C H A h _ S7 q7 z7 0 _ ah.out F.m).mono ?_
   rintro e w8 ⟨S8,q8,z8,n8,rfl,ax,m8,s8⟩
   replace n:=zc (n.out.stp s8)
   replace F:=F.stp m8 s8
   have aw:w.heap.size+1<w8.heap.size:=F.x1.lt
   have ao:w4.heap.size<w8.heap.size:=F.x2.lt
   unfold pv
   go_upto_region 12 with fail
   refine (F.new3 _).cutR (RW:=fun W=>Row S8 W h w.heap.size ⟨some ⟨g,0,none⟩,rc⟩ l) (n.out.alloc _) ?_
   clear n
   intro w9 F R0
   have n:=zc R0
   clear R0
   obtain⟨d0,d1,d2,d3,d4,d5,d6,d7,d8,d9,X,O,df⟩:=F.x3.box
   go_wp2_with fail
   refine (zZ C H A h _ S8 q8 z8 0 cSemi _ ax.out.fst F.m).mono ?_
   rintro e ai ⟨L,aj,ag,rfl,D,M,I⟩
   replace n:=zc (n.out.stp I)
   replace F:=F.stp M I
   clear d0 d1 d2 d3 d4 d5 d6 d7 d8 d9 X O df
   have N:=F.x0.boxC
   unfold pv
   go_upto_region 13 with fail
   refine (F.put0 ..).cutR (RW:=fun W=>Row L W h w.heap.size ⟨some ⟨g,0,none⟩,rc⟩ l) (n.out.put F.x0 ..) ?_
   clear N
   clear n
   intro aC F R0
   have n:=zc R0
   clear R0
   have ak:Hid (_=zae C q):=(zg0 (G:=fun b e=>zn C (zak b e)) aa.out ax.out).trans ((zjv aa.out (.inr hF)).trans aq.out.symm)
   go_wp2
   go_loopg [9] l.length (fun k i wr=>∃(j:Nat) (x':PR) (z:Sv) (E:PS) (z':Int),j≤l.length∧i= .int .i64 j∧Is x' E z'∧(z'<0→1≤E.pos)∧zQ (fun e=>zn C (zak n8 e)) (l.drop j) x'=zae C q∧l.length-j=k∧Mem C H A h z E wr∧SB w.heap.size S w z wr∧Bx H z wr w.heap.size #[.slice (some ⟨H,0,none⟩) C.ts.length A,.int .i64 E.pos,.int .i64 C.fin,.bool C.scr,.slice z.rq.a E.rq.length z.rq.cap,.slice z.im.a E.im.length z.im.cap,.slice z.ep.a E.ep.length z.ep.cap,.slice z.st.a E.st.length z.st.cap,.slice z.ex.a E.ex.length z.ex.cap,.slice z.la.a E.la.length z.la.cap,.int .i64 z',.int .i64 0]∧Bx H z wr (w.heap.size+1) #[.slice none 0 0,.int .i64 0,.int .i64 0,.bool false,.slice none 0 0,.slice none 0 0,.slice none 0 0,.slice none 0 0,.slice none 0 0,.slice none 0 0,.int .i64 0,.int .i64 0]∧Row z wr h w.heap.size ⟨some ⟨g,0,none⟩,rc⟩ l)
   case atStart=>exact⟨0,_,L,aj,ag,Nat.zero_le _,rfl,D.out,zaX D.out,ak.out,rfl,F.m,F.t,F.x0,F.x1,n.out⟩
   case round=>
    obtain⟨j,x9,S9,q9,z9,hj,rfl,i9,p9,e9,g9,m9,t9,X0,X1,R0⟩:=hrel
    clear n
    have F:=Fm.of2 X0 X1 m9 t9 (by omega) (by omega) (by omega)
    have J:=zc i9
    have ac:=zc p9
    have Y:=zc e9
    have af:=zc g9
    have n:=zc R0
    clear X0 X1 i9 m9 t9 e9 g9 R0 p9
    by_cases Z:j<l.length
    ·skip
     obtain⟨c1,c2⟩:=n.out.cells (g:=g) rfl Z
     have au:=n.out.own.lt (g:=g) rfl
     have HX:Hid (∀e,e=l[j]→zQ (fun e=>zn C (zak n8 e)) (l.drop (j+1)) (bd x9 (zn C (zak n8 e)))=zae C q):=fun e he=>by rw[he,←Y.out];exact (zfz (fun e=>zn C (zak n8 e)) l x9 Z).symm
     generalize ad:l[j]=el at c1 c2
     have al:Hid (el=l[j]):=ad.symm
     clear ad
     have N:=F.x0.boxC
     go_upto_region 16 with fail
     go_region_law (first|(go_simp;go_wp2_with (go_at_call 148;refine (zdk C H A h x9 S9 q9 z9 0 (zak n8 el) _ J.out F.m.drew ac.out).mono ?_;rintro e ai ⟨L,aj,ag,rfl,ae,M,I⟩;obtain⟨d0,d1,d2,d3,d4,d5,d6,d7,d8,d9,X,O,df⟩:=(F.x0.stp I.undrew).box;unfold pv)))
     all_goals
      clear N d0 d1 d2 d3 d4 d5 d6 d7 d8 d9 X O df
      have D:=zc ae
      have K:Hid (Stp S9 wr L ai):=I.undrew
      replace F:=F.stp M K.out
      clear ae M I
      go_wp2
      go_roundg (gk-1)
      case rel=>exact⟨j+1,_,L,aj,ag,by omega,by go_num,D.out,zg1 ac.out J.out D.out,HX.out el al.out,by have:=af.out;omega,F.m.put F.x0 _ _ _ _ _ _ _ _ _ _ _ _,F.t.put (by omega) _ _ _ _ _ _ _ _ _ _ _ _,F.x0.put _ _ _ _ _ _ _ _ _ _ _ _,F.x1.other (by omega) _ _ _ _ _ _ _ _ _ _ _ _,(n.out.stp K.out).put F.x0 _ _ _ _ _ _ _ _ _ _ _ _⟩
      case measure=>have:=af.out;omega
    ·skip
     have N:=F.x0.boxC
     have bb:=F.x1.boxC
     go_wp2
     refine (F.x1.put ..).ret rfl rfl ?_
     exact (F.put1 ..).done rfl (show Is (zae C q) q9 z9 from by rw[←Y.out,List.drop_eq_nil_of_le (by omega)];exact J.out)
  |false=>
   obtain⟨c0,c1,c2,c3,c4,c5,c6,c7,c8,c9,U,V,cf⟩:=F.x2.box
   go_wp2_with fail
   refine (zg C H A h S4 q4 z4 0 1 zO _ F.m.tok an (by decide)).mono ?_
   rintro e w6 ⟨rfl,am⟩
   rw[hF]
   replace n:=zc (n.out.below am)
   replace F:=F.below am
   clear c0 c1 c2 c3 c4 c5 c6 c7 c8 c9 U V cf
   obtain⟨c0,c1,c2,c3,c4,c5,c6,c7,c8,c9,U,V,cf⟩:=F.x2.box
   go_wp2_with fail
   refine (zZ C H A h _ S4 q4 z4 0 cSemi _ aa.out.fst F.m).mono ?_
   rintro e w7 ⟨S7,q7,z7,rfl,ah,m7,s7⟩
   replace n:=zc (n.out.stp s7)
   replace F:=F.stp m7 s7
   clear c0 c1 c2 c3 c4 c5 c6 c7 c8 c9 U V cf
   have N:=F.x0.boxC
   unfold pv
   go_upto_region 6 with fail
   refine (F.put0 ..).cutR (RW:=fun W=>Row S7 W h w.heap.size ⟨some ⟨g,0,none⟩,rc⟩ l) (n.out.put F.x0 ..) ?_
   clear N
   clear n
   intro w8 F R0
   have n:=zc R0
   clear R0
   have ak:Hid (_=zae C q):=(zpE aa.out hA hF).trans aq.out.symm
   go_wp2
   go_loopg [6] l.length (fun k i wr=>∃(j:Nat) (x':PR) (z:Sv) (E:PS) (z':Int),j≤l.length∧i= .int .i64 j∧Is x' E z'∧(z'<0→1≤E.pos)∧zQ (fun e=>zn C (zz e)) (l.drop j) x'=zae C q∧l.length-j=k∧Mem C H A h z E wr∧SB w.heap.size S w z wr∧Bx H z wr w.heap.size #[.slice (some ⟨H,0,none⟩) C.ts.length A,.int .i64 E.pos,.int .i64 C.fin,.bool C.scr,.slice z.rq.a E.rq.length z.rq.cap,.slice z.im.a E.im.length z.im.cap,.slice z.ep.a E.ep.length z.ep.cap,.slice z.st.a E.st.length z.st.cap,.slice z.ex.a E.ex.length z.ex.cap,.slice z.la.a E.la.length z.la.cap,.int .i64 z',.int .i64 0]∧Bx H z wr (w.heap.size+1) #[.slice none 0 0,.int .i64 0,.int .i64 0,.bool false,.slice none 0 0,.slice none 0 0,.slice none 0 0,.slice none 0 0,.slice none 0 0,.slice none 0 0,.int .i64 0,.int .i64 0]∧Row z wr h w.heap.size ⟨some ⟨g,0,none⟩,rc⟩ l)
   case atStart=>exact⟨0,_,S7,q7,z7,Nat.zero_le _,rfl,ah.out,zaX ah.out,ak.out,rfl,F.m,F.t,F.x0,F.x1,n.out⟩
   case round=>
    obtain⟨j,x9,S9,q9,z9,hj,rfl,i9,p9,e9,g9,m9,t9,X0,X1,R0⟩:=hrel
    clear n
    have F:=Fm.of2 X0 X1 m9 t9 (by omega) (by omega) (by omega)
    have J:=zc i9
    have ac:=zc p9
    have Y:=zc e9
    have af:=zc g9
    have n:=zc R0
    clear X0 X1 i9 m9 t9 e9 g9 R0 p9
    by_cases Z:j<l.length
    ·skip
     obtain⟨c1,c2⟩:=n.out.cells (g:=g) rfl Z
     have au:=n.out.own.lt (g:=g) rfl
     have HX:Hid (∀e,e=l[j]→zQ (fun e=>zn C (zz e)) (l.drop (j+1)) (bd x9 (zn C (zz e)))=zae C q):=fun e he=>by rw[he,←Y.out];exact (zfz (fun e=>zn C (zz e)) l x9 Z).symm
     generalize ad:l[j]=el at c1 c2
     have al:Hid (el=l[j]):=ad.symm
     clear ad
     have N:=F.x0.boxC
     go_upto_region 9 with fail
     go_region_law (first|(go_simp;go_wp2_with (go_at_call 148;refine (zdk C H A h x9 S9 q9 z9 0 (zz el) _ J.out F.m.drew ac.out).mono ?_;rintro e ai ⟨L,aj,ag,rfl,ae,M,I⟩;obtain⟨d0,d1,d2,d3,d4,d5,d6,d7,d8,d9,X,O,df⟩:=(F.x0.stp I.undrew).box;unfold pv)))
     all_goals
      clear N d0 d1 d2 d3 d4 d5 d6 d7 d8 d9 X O df
      have D:=zc ae
      have K:Hid (Stp S9 wr L ai):=I.undrew
      replace F:=F.stp M K.out
      clear ae M I
      go_wp2
      go_roundg (gk-1)
      case rel=>exact⟨j+1,_,L,aj,ag,by omega,by go_num,D.out,zg1 ac.out J.out D.out,HX.out el al.out,by have:=af.out;omega,F.m.put F.x0 _ _ _ _ _ _ _ _ _ _ _ _,F.t.put (by omega) _ _ _ _ _ _ _ _ _ _ _ _,F.x0.put _ _ _ _ _ _ _ _ _ _ _ _,F.x1.other (by omega) _ _ _ _ _ _ _ _ _ _ _ _,(n.out.stp K.out).put F.x0 _ _ _ _ _ _ _ _ _ _ _ _⟩
      case measure=>have:=af.out;omega
    ·skip
     have N:=F.x0.boxC
     have bb:=F.x1.boxC
     go_wp2
     refine (F.x1.put ..).ret rfl rfl ?_
     exact (F.put1 ..).done rfl (show Is (zae C q) q9 z9 from by rw[←Y.out,List.drop_eq_nil_of_le (by omega)];exact J.out)
theorem zpL (C:Cx) (n j h:Nat) (S:Sv) (q:PS) (w:World) (A:Mem C n j h S q w) (z:isT C q.pos 1 zad=true):
  Calls Tryz.prog 106 #[pv C n j S q (-1) 0] w (Out C n j h (zaH C q) 0 S w):=by
 cases D:isT C (q.pos+1) 4 zF with
 |true=>exact zp9 C n j h S q w A z D
 |false=>
  cases E:isT C (q.pos+1) 4 zv with
  |true=>exact zp6 C n j h S q w A z D E
  |false=>
   cases H:zB C (q.pos+1) false with
   |true=>exact zp7 C n j h S q w A z D E H
   |false=>exact zp8 C n j h S q w A z D E H
theorem zpM (C:Cx) (n j h:Nat) (S:Sv) (q:PS) (w:World) (A:Mem C n j h S q w) (z:isT C q.pos 1 zab=true):
  Calls Tryz.prog 107 #[pv C n j S q (-1) 0] w (Out C n j h (zae C q) 0 S w):=by
 cases D:isT C (q.pos+1) 4 zF with
 |true=>exact zpK C n j h S q w A z D
 |false=>
  cases E:isT C (q.pos+1) 4 zv with
  |true=>exact zpF C n j h S q w A z D E
  |false=>
   cases H:isT C (q.pos+1) 1 sDefault with
   |true=>exact zpG C n j h S q w A z D E H
   |false=>
    cases I:isT C (q.pos+1) 1 zA with
    |true=>exact zpH C n j h S q w A z D E H I
    |false=>
     cases J:isT C (q.pos+1) 1 zN with
     |true=>exact zpI C n j h S q w A z D E H I J
     |false=>exact zpJ C n j h S q w A z D E H I J
theorem zjw {C:Cx} {x:PR} {n:ByteArray}:bd (bd (bd (bd x (zd C 4 cEq)) (pE C .sum 0)) (zd C 4 cSemi)) (zV C 3 n)=bd x fun q=>bd (bd (bd (bd (.ok q) (zd C 4 cEq)) (pE C .sum 0)) (zd C 4 cSemi)) (zV C 3 n):=by cases x<;>rfl
theorem zpN (z:List Tk) (h:Nat) (D n j:Nat) (S:Sv) (q:PS) (w:World) (H:Mem (Cx.mk z h true) D n j S q w) (K:isT (Cx.mk z h true) q.pos 1 zA=true):
  Calls Tryz.prog 79 #[pv (Cx.mk z h true) D n S q (-1) 0] w (Out (Cx.mk z h true) D n j (zy (Cx.mk z h true) q) 0 S w):=by
 have N:=zc H
 have A:=H.tok
 have E:(Cx.mk z h true).ts.length≤4000:=H.few
 clear H
 have V:Hid (zy (Cx.mk z h true) q=zaE (zci (Cx.mk z h true) q)):=by show zy (Cx.mk z h true) q=_;rw[zy,K];rfl
 unfold pv
 go_enter Tryz.func79,Tryz.ntmps79
 go_wp2_with fail
 refine (zg (Cx.mk z h true) D n j S q (-1) 0 1 zA _ (zo (zo A _) _) E (by decide)).mono ?_
 rintro e Y ⟨rfl,J⟩
 rw[K]
 have F:=N.out.fm J
 clear A
 have U:=F.x0.boxC
 go_wp2_with fail
 refine (zgy (Cx.mk z h true) D n j S q _ F.m).mono ?_
 rintro e X ⟨S2,q2,z2,n2,rfl,I,M,O⟩
 replace F:=F.stp M O
 clear U
 have L:w.heap.size+1<X.heap.size:=F.x1.lt
 unfold pv
 go_upto_region 7 with fail
 refine (F.new2 _).cut ?_
 intro Z F
 have bb:=F.x1.boxC
 have cb:=F.x2.boxC
 go_wp2
 refine (F.x1.put ..).ret rfl rfl ?_
 rw[V.out]
 exact (F.put1 ..).done rfl I.out.fst
theorem zpO (z:List Tk) (h:Nat) (E n j:Nat) (S:Sv) (q:PS) (w:World) (H:Mem (Cx.mk z h true) E n j S q w) (M:isT (Cx.mk z h true) q.pos 1 zA=false) (N:isT (Cx.mk z h true) q.pos 1 zN=true):
  Calls Tryz.prog 79 #[pv (Cx.mk z h true) E n S q (-1) 0] w (Out (Cx.mk z h true) E n j (zy (Cx.mk z h true) q) 0 S w):=by
 have X:=zc H
 have A:=H.tok
 have D:(Cx.mk z h true).ts.length≤4000:=H.few
 clear H
 have Z:Hid (zy (Cx.mk z h true) q=zaE (fnP (Cx.mk z h true) q)):=by show zy (Cx.mk z h true) q=_;rw[zy,M,N];rfl
 unfold pv
 go_enter Tryz.func79,Tryz.ntmps79
 go_wp2_with fail
 refine (zg (Cx.mk z h true) E n j S q (-1) 0 1 zA _ (zo (zo A _) _) D (by decide)).mono ?_
 rintro e w1 ⟨rfl,L⟩
 rw[M]
 have F:=X.out.fm L
 clear A
 have I:=F.x0.boxC
 go_wp2_with fail
 refine (zg (Cx.mk z h true) E n j S q (-1) 0 1 zN _ F.m.tok D (by decide)).mono ?_
 rintro e w2 ⟨rfl,J⟩
 rw[N]
 replace F:=F.below J
 clear I
 have I:=F.x0.boxC
 go_wp2_with fail
 refine (zgz (Cx.mk z h true) E n j S q _ F.m).mono ?_
 rintro e V ⟨S3,q3,z3,n3,rfl,K,U,Y⟩
 replace F:=F.stp U Y
 clear I
 have O:w.heap.size+1<V.heap.size:=F.x1.lt
 unfold pv
 go_upto_region 10 with fail
 refine (F.new2 _).cut ?_
 intro w4 F
 have bb:=F.x1.boxC
 have cb:=F.x2.boxC
 go_wp2
 refine (F.x1.put ..).ret rfl rfl ?_
 rw[Z.out]
 exact (F.put1 ..).done rfl K.out.fst
theorem zpP (z:List Tk) (h:Nat) (A n j:Nat) (S:Sv) (q:PS) (w:World) (K:Mem (Cx.mk z h true) A n j S q w) (h0:isT (Cx.mk z h true) q.pos 1 zA=false) (h1:isT (Cx.mk z h true) q.pos 1 zN=false) (h2:isT (Cx.mk z h true) q.pos 1 zao=true):
  Calls Tryz.prog 79 #[pv (Cx.mk z h true) A n S q (-1) 0] w (Out (Cx.mk z h true) A n j (zy (Cx.mk z h true) q) 0 S w):=by
 have HM:=zc K
 have E:=K.tok
 have D:(Cx.mk z h true).ts.length≤4000:=K.few
 clear K
 have HV:Hid (zy (Cx.mk z h true) q=bd (bd (bd (bd (bd (bd (.ok q) (zd (Cx.mk z h true) 1 zao)) (zd (Cx.mk z h true) 4 zm)) (pE (Cx.mk z h true) .sum 0)) (zd (Cx.mk z h true) 4 zaw)) (zd (Cx.mk z h true) 4 cSemi)) (zV (Cx.mk z h true) 4 sNone)):=by show zy (Cx.mk z h true) q=_;rw[zy,h0,h1,h2];rfl
 unfold pv
 go_enter Tryz.func79,Tryz.ntmps79
 go_wp2_with fail
 refine (zg (Cx.mk z h true) A n j S q (-1) 0 1 zA _ (zo (zo E _) _) D (by decide)).mono ?_
 rintro e w1 ⟨rfl,Y⟩
 rw[h0]
 have F:=HM.out.fm Y
 clear E
 have I:=F.x0.boxC
 go_wp2_with fail
 refine (zg (Cx.mk z h true) A n j S q (-1) 0 1 zN _ F.m.tok D (by decide)).mono ?_
 rintro e w2 ⟨rfl,X⟩
 rw[h1]
 replace F:=F.below X
 clear I
 have I:=F.x0.boxC
 go_wp2_with fail
 refine (zg (Cx.mk z h true) A n j S q (-1) 0 1 zao _ F.m.tok D (by decide)).mono ?_
 rintro e w3 ⟨rfl,Z⟩
 rw[h2]
 replace F:=F.below Z
 clear I
 have I:=F.x0.boxC
 go_wp2_with fail
 refine (zaA (Cx.mk z h true) A n j (.ok q) S q (-1) 0 zao _ (zT q) F.m).mono ?_
 rintro e w4 ⟨S4,q4,z4,rfl,O,m4,s4⟩
 replace F:=F.stp m4 s4
 clear I
 go_wp2_with fail
 refine (zZ (Cx.mk z h true) A n j _ S4 q4 z4 0 zm _ O.out F.m).mono ?_
 rintro e w5 ⟨S5,q5,z5,rfl,N,m5,s5⟩
 replace F:=F.stp m5 s5
 go_wp2_with fail
 refine (zcB (Cx.mk z h true) A n j _ S5 q5 z5 _ N.out F.m).mono ?_
 rintro e w6 ⟨S6,q6,z6,rfl,M,m6,s6⟩
 replace F:=F.stp m6 s6
 go_wp2_with fail
 refine (zZ (Cx.mk z h true) A n j _ S6 q6 z6 0 zaw _ M.out F.m).mono ?_
 rintro e w7 ⟨S7,q7,z7,rfl,L,m7,s7⟩
 replace F:=F.stp m7 s7
 have aa:w.heap.size+1<w7.heap.size:=F.x1.lt
 unfold pv
 go_upto_region 13 with fail
 refine (F.new2 _).cut ?_
 intro w8 F
 have cb:=F.x2.boxC
 go_wp2_with fail
 refine (zZ (Cx.mk z h true) A n j _ S7 q7 z7 0 cSemi _ L.out F.m).mono ?_
 rintro e w9 ⟨S9,q9,z9,rfl,J,m9,s9⟩
 replace F:=F.stp m9 s9
 clear cb
 go_wp2_with fail
 refine (zc1 (Cx.mk z h true) A n j _ S9 q9 z9 0 4 sNone _ J.out F.m (zaX J.out)).mono ?_
 rintro e ae ⟨ad,af,ac,rfl,H,U,V⟩
 replace F:=F.stp U V
 have bb:=F.x1.boxC
 unfold pv
 go_wp2
 refine (F.x1.put ..).ret rfl rfl ?_
 rw[HV.out]
 exact (F.put1 ..).done rfl H.out
theorem zpQ (z:List Tk) (h:Nat) (D n j:Nat) (S:Sv) (q:PS) (w:World) (J:Mem (Cx.mk z h true) D n j S q w) (Y:isT (Cx.mk z h true) q.pos 1 zA=false) (Z:isT (Cx.mk z h true) q.pos 1 zN=false) (X:isT (Cx.mk z h true) q.pos 1 zao=false) (h3:isT (Cx.mk z h true) q.pos 1 zaz=true):
  Calls Tryz.prog 79 #[pv (Cx.mk z h true) D n S q (-1) 0] w (Out (Cx.mk z h true) D n j (zy (Cx.mk z h true) q) 0 S w):=by
 have HM:=zc J
 have E:=J.tok
 have A:(Cx.mk z h true).ts.length≤4000:=J.few
 clear J
 have HV:Hid (zy (Cx.mk z h true) q=bd (bd (bd (bd (.ok q) (zd (Cx.mk z h true) 1 zaz)) (pE (Cx.mk z h true) .sum 0)) (zd (Cx.mk z h true) 4 cSemi)) (zV (Cx.mk z h true) 5 sNone)):=by show zy (Cx.mk z h true) q=_;rw[zy,Y,Z,X,h3];rfl
 unfold pv
 go_enter Tryz.func79,Tryz.ntmps79
 go_wp2_with fail
 refine (zg (Cx.mk z h true) D n j S q (-1) 0 1 zA _ (zo (zo E _) _) A (by decide)).mono ?_
 rintro e w1 ⟨rfl,U⟩
 rw[Y]
 have F:=HM.out.fm U
 clear E
 have H:=F.x0.boxC
 go_wp2_with fail
 refine (zg (Cx.mk z h true) D n j S q (-1) 0 1 zN _ F.m.tok A (by decide)).mono ?_
 rintro e w2 ⟨rfl,N⟩
 rw[Z]
 replace F:=F.below N
 clear H
 have H:=F.x0.boxC
 go_wp2_with fail
 refine (zg (Cx.mk z h true) D n j S q (-1) 0 1 zao _ F.m.tok A (by decide)).mono ?_
 rintro e w3 ⟨rfl,V⟩
 rw[X]
 replace F:=F.below V
 clear H
 have H:=F.x0.boxC
 go_wp2_with fail
 refine (zg (Cx.mk z h true) D n j S q (-1) 0 1 zaz _ F.m.tok A (by decide)).mono ?_
 rintro e w4 ⟨rfl,O⟩
 rw[h3]
 replace F:=F.below O
 clear H
 have H:=F.x0.boxC
 go_wp2_with fail
 refine (zaA (Cx.mk z h true) D n j (.ok q) S q (-1) 0 zaz _ (zT q) F.m).mono ?_
 rintro e w5 ⟨S5,q5,z5,rfl,L,m5,s5⟩
 replace F:=F.stp m5 s5
 clear H
 go_wp2_with fail
 refine (zcB (Cx.mk z h true) D n j _ S5 q5 z5 _ L.out F.m).mono ?_
 rintro e w6 ⟨S6,q6,z6,rfl,K,m6,s6⟩
 replace F:=F.stp m6 s6
 go_wp2_with fail
 refine (zZ (Cx.mk z h true) D n j _ S6 q6 z6 0 cSemi _ K.out F.m).mono ?_
 rintro e w7 ⟨S7,q7,z7,rfl,I,m7,s7⟩
 replace F:=F.stp m7 s7
 go_wp2_with fail
 refine (zc1 (Cx.mk z h true) D n j _ S7 q7 z7 0 5 sNone _ I.out F.m (zaX I.out)).mono ?_
 rintro e w8 ⟨S8,q8,z8,rfl,M,m8,s8⟩
 replace F:=F.stp m8 s8
 have bb:=F.x1.boxC
 unfold pv
 go_wp2
 refine (F.x1.put ..).ret rfl rfl ?_
 rw[HV.out]
 exact (F.put1 ..).done rfl M.out
theorem zpR (z:List Tk) (h:Nat) (D n j:Nat) (S:Sv) (q:PS) (w:World) (J:Mem (Cx.mk z h true) D n j S q w) (Z:isT (Cx.mk z h true) q.pos 1 zA=false) (h1:isT (Cx.mk z h true) q.pos 1 zN=false) (Y:isT (Cx.mk z h true) q.pos 1 zao=false) (h3:isT (Cx.mk z h true) q.pos 1 zaz=false) (h4:isT (Cx.mk z h true) q.pos 1 zbv=true):
  Calls Tryz.prog 79 #[pv (Cx.mk z h true) D n S q (-1) 0] w (Out (Cx.mk z h true) D n j (zy (Cx.mk z h true) q) 0 S w):=by
 have HM:=zc J
 have H:=J.tok
 have A:(Cx.mk z h true).ts.length≤4000:=J.few
 clear J
 have HV:Hid (zy (Cx.mk z h true) q=bd (bd (bd (bd (.ok q) (zd (Cx.mk z h true) 1 zbv)) (pE (Cx.mk z h true) .sum 0)) (zd (Cx.mk z h true) 4 cSemi)) (zV (Cx.mk z h true) 6 sNone)):=by show zy (Cx.mk z h true) q=_;rw[zy,Z,h1,Y,h3,h4];rfl
 unfold pv
 go_enter Tryz.func79,Tryz.ntmps79
 go_wp2_with fail
 refine (zg (Cx.mk z h true) D n j S q (-1) 0 1 zA _ (zo (zo H _) _) A (by decide)).mono ?_
 rintro e w1 ⟨rfl,U⟩
 rw[Z]
 have F:=HM.out.fm U
 clear H
 have E:=F.x0.boxC
 go_wp2_with fail
 refine (zg (Cx.mk z h true) D n j S q (-1) 0 1 zN _ F.m.tok A (by decide)).mono ?_
 rintro e w2 ⟨rfl,N⟩
 rw[h1]
 replace F:=F.below N
 clear E
 have E:=F.x0.boxC
 go_wp2_with fail
 refine (zg (Cx.mk z h true) D n j S q (-1) 0 1 zao _ F.m.tok A (by decide)).mono ?_
 rintro e w3 ⟨rfl,X⟩
 rw[Y]
 replace F:=F.below X
 clear E
 have E:=F.x0.boxC
 go_wp2_with fail
 refine (zg (Cx.mk z h true) D n j S q (-1) 0 1 zaz _ F.m.tok A (by decide)).mono ?_
 rintro e w4 ⟨rfl,O⟩
 rw[h3]
 replace F:=F.below O
 clear E
 have E:=F.x0.boxC
 go_wp2_with fail
 refine (zg (Cx.mk z h true) D n j S q (-1) 0 1 zbv _ F.m.tok A (by decide)).mono ?_
 rintro e w5 ⟨rfl,M⟩
 rw[h4]
 replace F:=F.below M
 clear E
 have E:=F.x0.boxC
 go_wp2_with fail
 refine (zaA (Cx.mk z h true) D n j (.ok q) S q (-1) 0 zbv _ (zT q) F.m).mono ?_
 rintro e w6 ⟨S6,q6,z6,rfl,L,m6,s6⟩
 replace F:=F.stp m6 s6
 clear E
 go_wp2_with fail
 refine (zcB (Cx.mk z h true) D n j _ S6 q6 z6 _ L.out F.m).mono ?_
 rintro e w7 ⟨S7,q7,z7,rfl,K,m7,s7⟩
 replace F:=F.stp m7 s7
 go_wp2_with fail
 refine (zZ (Cx.mk z h true) D n j _ S7 q7 z7 0 cSemi _ K.out F.m).mono ?_
 rintro e w8 ⟨S8,q8,z8,rfl,I,m8,s8⟩
 replace F:=F.stp m8 s8
 go_wp2_with fail
 refine (zc1 (Cx.mk z h true) D n j _ S8 q8 z8 0 6 sNone _ I.out F.m (zaX I.out)).mono ?_
 rintro e w9 ⟨S9,q9,z9,rfl,V,m9,s9⟩
 replace F:=F.stp m9 s9
 have bb:=F.x1.boxC
 unfold pv
 go_wp2
 refine (F.x1.put ..).ret rfl rfl ?_
 rw[HV.out]
 exact (F.put1 ..).done rfl V.out
theorem zpS (z:List Tk) (h:Nat) (E A j:Nat) (S:Sv) (q:PS) (w:World) (M:Mem (Cx.mk z h true) E A j S q w) (h0:isT (Cx.mk z h true) q.pos 1 zA=false) (h1:isT (Cx.mk z h true) q.pos 1 zN=false) (h2:isT (Cx.mk z h true) q.pos 1 zao=false) (h3:isT (Cx.mk z h true) q.pos 1 zaz=false) (h4:isT (Cx.mk z h true) q.pos 1 zbv=false):
  Calls Tryz.prog 79 #[pv (Cx.mk z h true) E A S q (-1) 0] w (Out (Cx.mk z h true) E A j (zy (Cx.mk z h true) q) 0 S w):=by
 have HM:=zc M
 have I:=M.tok
 have D:(Cx.mk z h true).ts.length≤4000:=M.few
 clear M
 have HV:Hid (zy (Cx.mk z h true) q=bd (bd (.ok q) (zh (Cx.mk z h true) false)) fun a=>bd (bd (bd (bd (.ok a.1) (zd (Cx.mk z h true) 4 cEq)) (pE (Cx.mk z h true) .sum 0)) (zd (Cx.mk z h true) 4 cSemi)) (zV (Cx.mk z h true) 3 a.2)):=by show zy (Cx.mk z h true) q=_;rw[zy,h0,h1,h2,h3,h4];rfl
 unfold pv
 go_enter Tryz.func79,Tryz.ntmps79
 go_wp2_with fail
 refine (zg (Cx.mk z h true) E A j S q (-1) 0 1 zA _ (zo (zo I _) _) D (by decide)).mono ?_
 rintro e w1 ⟨rfl,ac⟩
 rw[h0]
 have F:=HM.out.fm ac
 clear I
 have H:=F.x0.boxC
 go_wp2_with fail
 refine (zg (Cx.mk z h true) E A j S q (-1) 0 1 zN _ F.m.tok D (by decide)).mono ?_
 rintro e w2 ⟨rfl,Y⟩
 rw[h1]
 replace F:=F.below Y
 clear H
 have H:=F.x0.boxC
 go_wp2_with fail
 refine (zg (Cx.mk z h true) E A j S q (-1) 0 1 zao _ F.m.tok D (by decide)).mono ?_
 rintro e w3 ⟨rfl,ae⟩
 rw[h2]
 replace F:=F.below ae
 clear H
 have H:=F.x0.boxC
 go_wp2_with fail
 refine (zg (Cx.mk z h true) E A j S q (-1) 0 1 zaz _ F.m.tok D (by decide)).mono ?_
 rintro e w4 ⟨rfl,aa⟩
 rw[h3]
 replace F:=F.below aa
 clear H
 have H:=F.x0.boxC
 go_wp2_with fail
 refine (zg (Cx.mk z h true) E A j S q (-1) 0 1 zbv _ F.m.tok D (by decide)).mono ?_
 rintro e w5 ⟨rfl,O⟩
 rw[h4]
 replace F:=F.below O
 clear H
 have H:=F.x0.boxC
 go_wp2_with fail
 refine (zaS (Cx.mk z h true) E A j (.ok q) S q (-1) 0 false _ (zT q) F.m).mono ?_
 rintro e w6 ⟨S6,q6,z6,n6,rfl,K,m6,s6⟩
 replace F:=F.stp m6 s6
 clear H
 have ai:w.heap.size+1<w6.heap.size:=F.x1.lt
 unfold pv
 go_upto_region 19 with fail
 refine (F.new2 _).cut ?_
 intro w7 F
 have cb:=F.x2.boxC
 go_wp2_with fail
 refine (zZ (Cx.mk z h true) E A j _ S6 q6 z6 0 cEq _ K.out.fst F.m).mono ?_
 rintro e w8 ⟨S8,q8,z8,rfl,V,m8,s8⟩
 replace F:=F.stp m8 s8
 clear cb
 go_wp2_with fail
 refine (zcB (Cx.mk z h true) E A j _ S8 q8 z8 _ V.out F.m).mono ?_
 rintro e w9 ⟨S9,q9,z9,rfl,ad,m9,s9⟩
 replace F:=F.stp m9 s9
 go_wp2_with fail
 refine (zZ (Cx.mk z h true) E A j _ S9 q9 z9 0 cSemi _ ad.out F.m).mono ?_
 rintro e an ⟨af,ah,N,rfl,J,U,X⟩
 replace F:=F.stp U X
 go_wp2_with fail
 refine (zc1 (Cx.mk z h true) E A j _ af ah N 0 3 n6 _ J.out F.m (zaX J.out)).mono ?_
 rintro e aj ⟨al,ak,am,rfl,L,Z,ag⟩
 replace F:=F.stp Z ag
 have bb:=F.x1.boxC
 unfold pv
 go_wp2
 refine (F.x1.put ..).ret rfl rfl ?_
 rw[HV.out,←K.out.bind (fun q n=>bd (bd (bd (bd (.ok q) (zd (Cx.mk z h true) 4 cEq)) (pE (Cx.mk z h true) .sum 0)) (zd (Cx.mk z h true) 4 cSemi)) (zV (Cx.mk z h true) 3 n)),←zjw]
 exact (F.put1 ..).done rfl L.out
theorem zpT (z:List Tk) (h:Nat) (A n j:Nat) (S:Sv) (q:PS) (w:World) (D:Mem (Cx.mk z h true) A n j S q w):
  Calls Tryz.prog 79 #[pv (Cx.mk z h true) A n S q (-1) 0] w (Out (Cx.mk z h true) A n j (zy (Cx.mk z h true) q) 0 S w):=by
 cases E:isT (Cx.mk z h true) q.pos 1 zA with
 |true=>exact zpN z h A n j S q w D E
 |false=>
  cases H:isT (Cx.mk z h true) q.pos 1 zN with
  |true=>exact zpO z h A n j S q w D E H
  |false=>
   cases I:isT (Cx.mk z h true) q.pos 1 zao with
   |true=>exact zpP z h A n j S q w D E H I
   |false=>
    cases J:isT (Cx.mk z h true) q.pos 1 zaz with
    |true=>exact zpQ z h A n j S q w D E H I J
    |false=>
     cases K:isT (Cx.mk z h true) q.pos 1 zbv with
     |true=>exact zpR z h A n j S q w D E H I J K
     |false=>
      exact zpS z h A n j S q w D E H I J K
theorem zpU (z:List Tk) (h:Nat) (D n j:Nat) (S:Sv) (q:PS) (w:World) (H:Mem (Cx.mk z h false) D n j S q w) (I:isT (Cx.mk z h false) q.pos 1 zad=true):
  Calls Tryz.prog 79 #[pv (Cx.mk z h false) D n S q (-1) 0] w (Out (Cx.mk z h false) D n j (zy (Cx.mk z h false) q) 0 S w):=by
 have M:=zc H
 have A:=H.tok
 have E:(Cx.mk z h false).ts.length≤4000:=H.few
 clear H
 have U:Hid (zy (Cx.mk z h false) q=zaH (Cx.mk z h false) q):=by show zy (Cx.mk z h false) q=_;rw[zy,I];rfl
 unfold pv
 go_enter Tryz.func79,Tryz.ntmps79
 go_wp2_with fail
 refine (zg (Cx.mk z h false) D n j S q (-1) 0 1 zad _ (zo (zo A _) _) E (by decide)).mono ?_
 rintro e V ⟨rfl,K⟩
 rw[I]
 have F:=M.out.fm K
 clear A
 have O:=F.x0.boxC
 go_wp2_with fail
 refine (zpL (Cx.mk z h false) D n j S q _ F.m I).mono ?_
 rintro e w2 ⟨Z,q2,Y,rfl,J,L,N⟩
 replace F:=F.stp L N
 clear O
 have X:=F.x1.boxC
 unfold pv
 go_wp2
 refine (F.x1.put ..).ret rfl rfl ?_
 rw[U.out]
 exact (F.put1 ..).done rfl J.out
theorem zpV (z:List Tk) (h:Nat) (E n j:Nat) (S:Sv) (q:PS) (w:World) (H:Mem (Cx.mk z h false) E n j S q w) (N:isT (Cx.mk z h false) q.pos 1 zad=false) (I:isT (Cx.mk z h false) q.pos 1 zab=true):
  Calls Tryz.prog 79 #[pv (Cx.mk z h false) E n S q (-1) 0] w (Out (Cx.mk z h false) E n j (zy (Cx.mk z h false) q) 0 S w):=by
 have U:=zc H
 have A:=H.tok
 have D:(Cx.mk z h false).ts.length≤4000:=H.few
 clear H
 have X:Hid (zy (Cx.mk z h false) q=zae (Cx.mk z h false) q):=by show zy (Cx.mk z h false) q=_;rw[zy,N,I];rfl
 unfold pv
 go_enter Tryz.func79,Tryz.ntmps79
 go_wp2_with fail
 refine (zg (Cx.mk z h false) E n j S q (-1) 0 1 zad _ (zo (zo A _) _) D (by decide)).mono ?_
 rintro e Y ⟨rfl,M⟩
 rw[N]
 have F:=U.out.fm M
 clear A
 have J:=F.x0.boxC
 go_wp2_with fail
 refine (zg (Cx.mk z h false) E n j S q (-1) 0 1 zab _ F.m.tok D (by decide)).mono ?_
 rintro e w2 ⟨rfl,K⟩
 rw[I]
 replace F:=F.below K
 clear J
 have J:=F.x0.boxC
 go_wp2_with fail
 refine (zpM (Cx.mk z h false) E n j S q _ F.m I).mono ?_
 rintro e Z ⟨S3,q3,z3,rfl,L,O,V⟩
 replace F:=F.stp O V
 clear J
 have bb:=F.x1.boxC
 unfold pv
 go_wp2
 refine (F.x1.put ..).ret rfl rfl ?_
 rw[X.out]
 exact (F.put1 ..).done rfl L.out
theorem zpW (z:List Tk) (h:Nat) (E n j:Nat) (S:Sv) (q:PS) (w:World) (I:Mem (Cx.mk z h false) E n j S q w) (O:isT (Cx.mk z h false) q.pos 1 zad=false) (U:isT (Cx.mk z h false) q.pos 1 zab=false) (N:isT (Cx.mk z h false) q.pos 1 zA=true):
  Calls Tryz.prog 79 #[pv (Cx.mk z h false) E n S q (-1) 0] w (Out (Cx.mk z h false) E n j (zy (Cx.mk z h false) q) 0 S w):=by
 have Z:=zc I
 have D:=I.tok
 have A:(Cx.mk z h false).ts.length≤4000:=I.few
 clear I
 have HV:Hid (zy (Cx.mk z h false) q=zaE (zci (Cx.mk z h false) q)):=by show zy (Cx.mk z h false) q=_;rw[zy,O,U,N];rfl
 unfold pv
 go_enter Tryz.func79,Tryz.ntmps79
 go_wp2_with fail
 refine (zg (Cx.mk z h false) E n j S q (-1) 0 1 zad _ (zo (zo D _) _) A (by decide)).mono ?_
 rintro e w1 ⟨rfl,L⟩
 rw[O]
 have F:=Z.out.fm L
 clear D
 have H:=F.x0.boxC
 go_wp2_with fail
 refine (zg (Cx.mk z h false) E n j S q (-1) 0 1 zab _ F.m.tok A (by decide)).mono ?_
 rintro e w2 ⟨rfl,K⟩
 rw[U]
 replace F:=F.below K
 clear H
 have H:=F.x0.boxC
 go_wp2_with fail
 refine (zg (Cx.mk z h false) E n j S q (-1) 0 1 zA _ F.m.tok A (by decide)).mono ?_
 rintro e w3 ⟨rfl,M⟩
 rw[N]
 replace F:=F.below M
 clear H
 have H:=F.x0.boxC
 go_wp2_with fail
 refine (zgy (Cx.mk z h false) E n j S q _ F.m).mono ?_
 rintro e X ⟨S4,q4,z4,n4,rfl,J,m4,Y⟩
 replace F:=F.stp m4 Y
 clear H
 have V:w.heap.size+1<X.heap.size:=F.x1.lt
 unfold pv
 go_upto_region 7 with fail
 refine (F.new2 _).cut ?_
 intro w5 F
 have bb:=F.x1.boxC
 have cb:=F.x2.boxC
 go_wp2
 refine (F.x1.put ..).ret rfl rfl ?_
 rw[HV.out]
 exact (F.put1 ..).done rfl J.out.fst
theorem zpX (z:List Tk) (h:Nat) (E n j:Nat) (S:Sv) (q:PS) (w:World) (I:Mem (Cx.mk z h false) E n j S q w) (U:isT (Cx.mk z h false) q.pos 1 zad=false) (V:isT (Cx.mk z h false) q.pos 1 zab=false) (O:isT (Cx.mk z h false) q.pos 1 zA=false) (X:isT (Cx.mk z h false) q.pos 1 zN=true):
  Calls Tryz.prog 79 #[pv (Cx.mk z h false) E n S q (-1) 0] w (Out (Cx.mk z h false) E n j (zy (Cx.mk z h false) q) 0 S w):=by
 have Z:=zc I
 have D:=I.tok
 have A:(Cx.mk z h false).ts.length≤4000:=I.few
 clear I
 have HV:Hid (zy (Cx.mk z h false) q=zaE (fnP (Cx.mk z h false) q)):=by show zy (Cx.mk z h false) q=_;rw[zy,U,V,O,X];rfl
 unfold pv
 go_enter Tryz.func79,Tryz.ntmps79
 go_wp2_with fail
 refine (zg (Cx.mk z h false) E n j S q (-1) 0 1 zad _ (zo (zo D _) _) A (by decide)).mono ?_
 rintro e w1 ⟨rfl,M⟩
 rw[U]
 have F:=Z.out.fm M
 clear D
 have H:=F.x0.boxC
 go_wp2_with fail
 refine (zg (Cx.mk z h false) E n j S q (-1) 0 1 zab _ F.m.tok A (by decide)).mono ?_
 rintro e w2 ⟨rfl,K⟩
 rw[V]
 replace F:=F.below K
 clear H
 have H:=F.x0.boxC
 go_wp2_with fail
 refine (zg (Cx.mk z h false) E n j S q (-1) 0 1 zA _ F.m.tok A (by decide)).mono ?_
 rintro e w3 ⟨rfl,N⟩
 rw[O]
 replace F:=F.below N
 clear H
 have H:=F.x0.boxC
 go_wp2_with fail
 refine (zg (Cx.mk z h false) E n j S q (-1) 0 1 zN _ F.m.tok A (by decide)).mono ?_
 rintro e w4 ⟨rfl,L⟩
 rw[X]
 replace F:=F.below L
 clear H
 have H:=F.x0.boxC
 go_wp2_with fail
 refine (zgz (Cx.mk z h false) E n j S q _ F.m).mono ?_
 rintro e w5 ⟨S5,q5,z5,n5,rfl,J,m5,s5⟩
 replace F:=F.stp m5 s5
 clear H
 have Y:w.heap.size+1<w5.heap.size:=F.x1.lt
 unfold pv
 go_upto_region 10 with fail
 refine (F.new2 _).cut ?_
 intro w6 F
 have bb:=F.x1.boxC
 have cb:=F.x2.boxC
 go_wp2
 refine (F.x1.put ..).ret rfl rfl ?_
 rw[HV.out]
 exact (F.put1 ..).done rfl J.out.fst
theorem zpY (z:List Tk) (h:Nat) (D n j:Nat) (S:Sv) (q:PS) (w:World) (K:Mem (Cx.mk z h false) D n j S q w) (h0:isT (Cx.mk z h false) q.pos 1 zad=false) (h1:isT (Cx.mk z h false) q.pos 1 zab=false) (h2:isT (Cx.mk z h false) q.pos 1 zA=false) (h3:isT (Cx.mk z h false) q.pos 1 zN=false) (h4:isT (Cx.mk z h false) q.pos 1 zao=true):
  Calls Tryz.prog 79 #[pv (Cx.mk z h false) D n S q (-1) 0] w (Out (Cx.mk z h false) D n j (zy (Cx.mk z h false) q) 0 S w):=by
 have HM:=zc K
 have H:=K.tok
 have A:(Cx.mk z h false).ts.length≤4000:=K.few
 clear K
 have HV:Hid (zy (Cx.mk z h false) q=bd (bd (bd (bd (bd (bd (.ok q) (zd (Cx.mk z h false) 1 zao)) (zd (Cx.mk z h false) 4 zm)) (pE (Cx.mk z h false) .sum 0)) (zd (Cx.mk z h false) 4 zaw)) (zd (Cx.mk z h false) 4 cSemi)) (zV (Cx.mk z h false) 4 sNone)):=by show zy (Cx.mk z h false) q=_;rw[zy,h0,h1,h2,h3,h4];rfl
 unfold pv
 go_enter Tryz.func79,Tryz.ntmps79
 go_wp2_with fail
 refine (zg (Cx.mk z h false) D n j S q (-1) 0 1 zad _ (zo (zo H _) _) A (by decide)).mono ?_
 rintro e w1 ⟨rfl,ad⟩
 rw[h0]
 have F:=HM.out.fm ad
 clear H
 have E:=F.x0.boxC
 go_wp2_with fail
 refine (zg (Cx.mk z h false) D n j S q (-1) 0 1 zab _ F.m.tok A (by decide)).mono ?_
 rintro e w2 ⟨rfl,X⟩
 rw[h1]
 replace F:=F.below X
 clear E
 have E:=F.x0.boxC
 go_wp2_with fail
 refine (zg (Cx.mk z h false) D n j S q (-1) 0 1 zA _ F.m.tok A (by decide)).mono ?_
 rintro e w3 ⟨rfl,ah⟩
 rw[h2]
 replace F:=F.below ah
 clear E
 have E:=F.x0.boxC
 go_wp2_with fail
 refine (zg (Cx.mk z h false) D n j S q (-1) 0 1 zN _ F.m.tok A (by decide)).mono ?_
 rintro e w4 ⟨rfl,aa⟩
 rw[h3]
 replace F:=F.below aa
 clear E
 have E:=F.x0.boxC
 go_wp2_with fail
 refine (zg (Cx.mk z h false) D n j S q (-1) 0 1 zao _ F.m.tok A (by decide)).mono ?_
 rintro e w5 ⟨rfl,O⟩
 rw[h4]
 replace F:=F.below O
 clear E
 have E:=F.x0.boxC
 go_wp2_with fail
 refine (zaA (Cx.mk z h false) D n j (.ok q) S q (-1) 0 zao _ (zT q) F.m).mono ?_
 rintro e w6 ⟨S6,q6,z6,rfl,M,m6,s6⟩
 replace F:=F.stp m6 s6
 clear E
 go_wp2_with fail
 refine (zZ (Cx.mk z h false) D n j _ S6 q6 z6 0 zm _ M.out F.m).mono ?_
 rintro e w7 ⟨S7,q7,z7,rfl,L,m7,s7⟩
 replace F:=F.stp m7 s7
 go_wp2_with fail
 refine (zcB (Cx.mk z h false) D n j _ S7 q7 z7 _ L.out F.m).mono ?_
 rintro e w8 ⟨S8,q8,z8,rfl,V,m8,s8⟩
 replace F:=F.stp m8 s8
 go_wp2_with fail
 refine (zZ (Cx.mk z h false) D n j _ S8 q8 z8 0 zaw _ V.out F.m).mono ?_
 rintro e w9 ⟨S9,q9,z9,rfl,ag,m9,s9⟩
 replace F:=F.stp m9 s9
 have ai:w.heap.size+1<w9.heap.size:=F.x1.lt
 unfold pv
 go_upto_region 13 with fail
 refine (F.new2 _).cut ?_
 intro ao F
 have cb:=F.x2.boxC
 go_wp2_with fail
 refine (zZ (Cx.mk z h false) D n j _ S9 q9 z9 0 cSemi _ ag.out F.m).mono ?_
 rintro e ak ⟨Y,U,ae,rfl,I,Z,af⟩
 replace F:=F.stp Z af
 clear cb
 go_wp2_with fail
 refine (zc1 (Cx.mk z h false) D n j _ Y U ae 0 4 sNone _ I.out F.m (zaX I.out)).mono ?_
 rintro e aj ⟨al,am,an,rfl,J,N,ac⟩
 replace F:=F.stp N ac
 have bb:=F.x1.boxC
 unfold pv
 go_wp2
 refine (F.x1.put ..).ret rfl rfl ?_
 rw[HV.out]
 exact (F.put1 ..).done rfl J.out
theorem zpZ (z:List Tk) (h:Nat) (D n j:Nat) (S:Sv) (q:PS) (w:World) (K:Mem (Cx.mk z h false) D n j S q w) (h0:isT (Cx.mk z h false) q.pos 1 zad=false) (h1:isT (Cx.mk z h false) q.pos 1 zab=false) (h2:isT (Cx.mk z h false) q.pos 1 zA=false) (h3:isT (Cx.mk z h false) q.pos 1 zN=false) (h4:isT (Cx.mk z h false) q.pos 1 zao=false) (h5:isT (Cx.mk z h false) q.pos 1 zaz=true):
  Calls Tryz.prog 79 #[pv (Cx.mk z h false) D n S q (-1) 0] w (Out (Cx.mk z h false) D n j (zy (Cx.mk z h false) q) 0 S w):=by
 have HM:=zc K
 have H:=K.tok
 have A:(Cx.mk z h false).ts.length≤4000:=K.few
 clear K
 have HV:Hid (zy (Cx.mk z h false) q=bd (bd (bd (bd (.ok q) (zd (Cx.mk z h false) 1 zaz)) (pE (Cx.mk z h false) .sum 0)) (zd (Cx.mk z h false) 4 cSemi)) (zV (Cx.mk z h false) 5 sNone)):=by show zy (Cx.mk z h false) q=_;rw[zy,h0,h1,h2,h3,h4,h5];rfl
 unfold pv
 go_enter Tryz.func79,Tryz.ntmps79
 go_wp2_with fail
 refine (zg (Cx.mk z h false) D n j S q (-1) 0 1 zad _ (zo (zo H _) _) A (by decide)).mono ?_
 rintro e w1 ⟨rfl,Z⟩
 rw[h0]
 have F:=HM.out.fm Z
 clear H
 have E:=F.x0.boxC
 go_wp2_with fail
 refine (zg (Cx.mk z h false) D n j S q (-1) 0 1 zab _ F.m.tok A (by decide)).mono ?_
 rintro e w2 ⟨rfl,X⟩
 rw[h1]
 replace F:=F.below X
 clear E
 have E:=F.x0.boxC
 go_wp2_with fail
 refine (zg (Cx.mk z h false) D n j S q (-1) 0 1 zA _ F.m.tok A (by decide)).mono ?_
 rintro e w3 ⟨rfl,aa⟩
 rw[h2]
 replace F:=F.below aa
 clear E
 have E:=F.x0.boxC
 go_wp2_with fail
 refine (zg (Cx.mk z h false) D n j S q (-1) 0 1 zN _ F.m.tok A (by decide)).mono ?_
 rintro e w4 ⟨rfl,Y⟩
 rw[h3]
 replace F:=F.below Y
 clear E
 have E:=F.x0.boxC
 go_wp2_with fail
 refine (zg (Cx.mk z h false) D n j S q (-1) 0 1 zao _ F.m.tok A (by decide)).mono ?_
 rintro e w5 ⟨rfl,N⟩
 rw[h4]
 replace F:=F.below N
 clear E
 have E:=F.x0.boxC
 go_wp2_with fail
 refine (zg (Cx.mk z h false) D n j S q (-1) 0 1 zaz _ F.m.tok A (by decide)).mono ?_
 rintro e w6 ⟨rfl,M⟩
 rw[h5]
 replace F:=F.below M
 clear E
 have E:=F.x0.boxC
 go_wp2_with fail
 refine (zaA (Cx.mk z h false) D n j (.ok q) S q (-1) 0 zaz _ (zT q) F.m).mono ?_
 rintro e w7 ⟨S7,q7,z7,rfl,L,m7,s7⟩
 replace F:=F.stp m7 s7
 clear E
 go_wp2_with fail
 refine (zcB (Cx.mk z h false) D n j _ S7 q7 z7 _ L.out F.m).mono ?_
 rintro e w8 ⟨S8,q8,z8,rfl,U,m8,s8⟩
 replace F:=F.stp m8 s8
 go_wp2_with fail
 refine (zZ (Cx.mk z h false) D n j _ S8 q8 z8 0 cSemi _ U.out F.m).mono ?_
 rintro e w9 ⟨S9,q9,z9,rfl,J,m9,s9⟩
 replace F:=F.stp m9 s9
 go_wp2_with fail
 refine (zc1 (Cx.mk z h false) D n j _ S9 q9 z9 0 5 sNone _ J.out F.m (zaX J.out)).mono ?_
 rintro e ae ⟨ad,af,ac,rfl,I,O,V⟩
 replace F:=F.stp O V
 have bb:=F.x1.boxC
 unfold pv
 go_wp2
 refine (F.x1.put ..).ret rfl rfl ?_
 rw[HV.out]
 exact (F.put1 ..).done rfl I.out
theorem zqa (z:List Tk) (h:Nat) (E A j:Nat) (S:Sv) (q:PS) (w:World) (N:Mem (Cx.mk z h false) E A j S q w) (h0:isT (Cx.mk z h false) q.pos 1 zad=false) (h1:isT (Cx.mk z h false) q.pos 1 zab=false) (h2:isT (Cx.mk z h false) q.pos 1 zA=false) (h3:isT (Cx.mk z h false) q.pos 1 zN=false) (h4:isT (Cx.mk z h false) q.pos 1 zao=false) (h5:isT (Cx.mk z h false) q.pos 1 zaz=false):
  Calls Tryz.prog 79 #[pv (Cx.mk z h false) E A S q (-1) 0] w (Out (Cx.mk z h false) E A j (zy (Cx.mk z h false) q) 0 S w):=by
 have HM:=zc N
 have I:=N.tok
 have D:(Cx.mk z h false).ts.length≤4000:=N.few
 clear N
 have HV:Hid (zy (Cx.mk z h false) q=bd (bd (.ok q) (zh (Cx.mk z h false) false)) fun a=>bd (bd (bd (bd (.ok a.1) (zd (Cx.mk z h false) 4 cEq)) (pE (Cx.mk z h false) .sum 0)) (zd (Cx.mk z h false) 4 cSemi)) (zV (Cx.mk z h false) 3 a.2)):=by show zy (Cx.mk z h false) q=_;rw[zy,h0,h1,h2,h3,h4,h5];rfl
 unfold pv
 go_enter Tryz.func79,Tryz.ntmps79
 go_wp2_with fail
 refine (zg (Cx.mk z h false) E A j S q (-1) 0 1 zad _ (zo (zo I _) _) D (by decide)).mono ?_
 rintro e w1 ⟨rfl,ai⟩
 rw[h0]
 have F:=HM.out.fm ai
 clear I
 have H:=F.x0.boxC
 go_wp2_with fail
 refine (zg (Cx.mk z h false) E A j S q (-1) 0 1 zab _ F.m.tok D (by decide)).mono ?_
 rintro e w2 ⟨rfl,ad⟩
 rw[h1]
 replace F:=F.below ad
 clear H
 have H:=F.x0.boxC
 go_wp2_with fail
 refine (zg (Cx.mk z h false) E A j S q (-1) 0 1 zA _ F.m.tok D (by decide)).mono ?_
 rintro e w3 ⟨rfl,am⟩
 rw[h2]
 replace F:=F.below am
 clear H
 have H:=F.x0.boxC
 go_wp2_with fail
 refine (zg (Cx.mk z h false) E A j S q (-1) 0 1 zN _ F.m.tok D (by decide)).mono ?_
 rintro e w4 ⟨rfl,ag⟩
 rw[h3]
 replace F:=F.below ag
 clear H
 have H:=F.x0.boxC
 go_wp2_with fail
 refine (zg (Cx.mk z h false) E A j S q (-1) 0 1 zao _ F.m.tok D (by decide)).mono ?_
 rintro e w5 ⟨rfl,Y⟩
 rw[h4]
 replace F:=F.below Y
 clear H
 have H:=F.x0.boxC
 go_wp2_with fail
 refine (zg (Cx.mk z h false) E A j S q (-1) 0 1 zaz _ F.m.tok D (by decide)).mono ?_
 rintro e w6 ⟨rfl,V⟩
 rw[h5]
 replace F:=F.below V
 clear H
 have H:=F.x0.boxC
 go_wp2_with fail
 refine (zaS (Cx.mk z h false) E A j (.ok q) S q (-1) 0 false _ (zT q) F.m).mono ?_
 rintro e w7 ⟨S7,q7,z7,n7,rfl,K,m7,s7⟩
 replace F:=F.stp m7 s7
 clear H
 have ao:w.heap.size+1<w7.heap.size:=F.x1.lt
 unfold pv
 go_upto_region 19 with fail
 refine (F.new2 _).cut ?_
 intro w8 F
 have cb:=F.x2.boxC
 go_wp2_with fail
 refine (zZ (Cx.mk z h false) E A j _ S7 q7 z7 0 cEq _ K.out.fst F.m).mono ?_
 rintro e w9 ⟨S9,q9,z9,rfl,al,m9,s9⟩
 replace F:=F.stp m9 s9
 clear cb
 go_wp2_with fail
 refine (zcB (Cx.mk z h false) E A j _ S9 q9 z9 _ al.out F.m).mono ?_
 rintro e aw ⟨aj,an,O,rfl,M,Z,ac⟩
 replace F:=F.stp Z ac
 go_wp2_with fail
 refine (zZ (Cx.mk z h false) E A j _ aj an O 0 cSemi _ M.out F.m).mono ?_
 rintro e ap ⟨ae,aa,U,rfl,J,af,ak⟩
 replace F:=F.stp af ak
 go_wp2_with fail
 refine (zc1 (Cx.mk z h false) E A j _ ae aa U 0 3 n7 _ J.out F.m (zaX J.out)).mono ?_
 rintro e av ⟨aq,ar,au,rfl,L,X,ah⟩
 replace F:=F.stp X ah
 have bb:=F.x1.boxC
 unfold pv
 go_wp2
 refine (F.x1.put ..).ret rfl rfl ?_
 rw[HV.out,←K.out.bind (fun q n=>bd (bd (bd (bd (.ok q) (zd (Cx.mk z h false) 4 cEq)) (pE (Cx.mk z h false) .sum 0)) (zd (Cx.mk z h false) 4 cSemi)) (zV (Cx.mk z h false) 3 n)),←zjw]
 exact (F.put1 ..).done rfl L.out
theorem zqb (z:List Tk) (h:Nat) (A n j:Nat) (S:Sv) (q:PS) (w:World) (D:Mem (Cx.mk z h false) A n j S q w):
  Calls Tryz.prog 79 #[pv (Cx.mk z h false) A n S q (-1) 0] w (Out (Cx.mk z h false) A n j (zy (Cx.mk z h false) q) 0 S w):=by
 cases E:isT (Cx.mk z h false) q.pos 1 zad with
 |true=>exact zpU z h A n j S q w D E
 |false=>
  cases H:isT (Cx.mk z h false) q.pos 1 zab with
  |true=>exact zpV z h A n j S q w D E H
  |false=>
   cases I:isT (Cx.mk z h false) q.pos 1 zA with
   |true=>exact zpW z h A n j S q w D E H I
   |false=>
    cases J:isT (Cx.mk z h false) q.pos 1 zN with
    |true=>exact zpX z h A n j S q w D E H I J
    |false=>
     cases K:isT (Cx.mk z h false) q.pos 1 zao with
     |true=>exact zpY z h A n j S q w D E H I J K
     |false=>
      cases L:isT (Cx.mk z h false) q.pos 1 zaz with
      |true=>exact zpZ z h A n j S q w D E H I J K L
      |false=>
       exact zqa z h A n j S q w D E H I J K L
theorem zqc (C:Cx) (z j h:Nat) (S:Sv) (q:PS) (w:World) (D:Mem C z j h S q w):
  Calls Tryz.prog 79 #[pv C z j S q (-1) 0] w (Out C z j h (zy C q) 0 S w):=by
 obtain⟨E,n,A⟩:=C
 cases A with
 |true=>exact zpT E n z j h S q w D
 |false=>exact zqb E n z j h S q w D
theorem zqd (s:ByteArray) (j:Bool) (w:World) (hs:s.size≤4294967296):
  Calls Tryz.prog 32 #[.string s,.bool j] w fun e w'=>ParseOut s j w e w'∧Below w.heap.size w w':=by
 obtain⟨i0,hi,aq,ay,av⟩:=info_parts Tryz.infoExp
 go_enter Tryz.func32,Tryz.ntmps32
 go_wp2_with fail
 refine (zkt s j _ hs).mono ?_
 rintro e X ⟨⟨r1,L,O⟩,b1⟩
 have ad:Hid (Below w.heap.size w X):=((Below.refl _ _).alloc (Nat.le_refl _) _).trans (b1.mono (by rw[zk];omega))
 have hG:X.heap[w.heap.size]? =some (.cells #[.slice none 0 0,.slice none 0 0,.slice none 0 0,.slice none 0 0,.slice none 0 0] 36 (0,0)):=(b1.block _ (by rw[zk];omega)).trans (heap_alloc_new w _)
 rw[zk] at b1
 cases r1 with
 |error p=>
  obtain⟨g,N,rfl,z⟩:=O
  have HY:Hid (zb1 s j (.error p)):=⟨_,L,rfl⟩
  have HG:=zc hG
  obtain⟨c0,c1,c2,c3,c4,cf⟩:=zi hG
  have dz:decide ((0:Int)≤(p:Int))=true:=decide_eq_true (by omega)
  clear z L b1 hG
  go_wp2
  refine bodyPost_ret (zay rfl _ _ w.heap.size 36 _ (0,0) _ rfl (zcJ HG.out) Tryz.underlying36 rfl (by kernel_rfl)) rfl ?_
  exact⟨⟨_,HY.out,rfl⟩,zcS ad.out (Nat.le_refl _) _ _ _ _ _⟩
 |ok A=>
  obtain⟨g,n,N,rfl,z⟩:=O
  obtain rfl:n=A.length:=z.2
  rw[zk] at z
  have ai:w.heap.size+1≤X.heap.size:=by have:=b1.size;rw[zk] at this;exact this
  have ah:=zgS L
  have HR:=zc L
  have aj:Mem ⟨A,s.size,j⟩ g N (w.heap.size+1) S0 zb0 X:=zgT z ah ai
  have am:=zc aj
  have HG:=zc hG
  clear z L aj hG
  go_wp2
  go_loopg [] (A.length+1) (fun k wr=>∃(x':PR) (E:Sv) (V:PS) (z':Int),Is x' V z'∧bd x' (zap ⟨A,s.size,j⟩)=zap ⟨A,s.size,j⟩ zb0∧(z'<0→A.length-V.pos<k)∧Mem ⟨A,s.size,j⟩ g N (w.heap.size+1) E V wr∧Below w.heap.size w wr∧Bx g E wr X.heap.size #[.slice (some ⟨g,0,none⟩) A.length N,.int .i64 V.pos,.int .i64 s.size,.bool j,.slice E.rq.a V.rq.length E.rq.cap,.slice E.im.a V.im.length E.im.cap,.slice E.ep.a V.ep.length E.ep.cap,.slice E.st.a V.st.length E.st.cap,.slice E.ex.a V.ex.length E.ex.cap,.slice E.la.a V.la.length E.la.cap,.int .i64 z',.int .i64 0]∧wr.heap[w.heap.size]? =some (.cells #[.slice none 0 0,.slice none 0 0,.slice none 0 0,.slice none 0 0,.slice none 0 0] 36 (0,0)))
  case atStart=>exact⟨.ok zb0,S0,zb0,-1,zT _,rfl,fun _=>by show A.length-0<A.length+1;omega,am.out.alloc _,ad.out.alloc ad.out.size _,Bx.new am.out _,(Below.heap_alloc _ _ _ (by omega)).trans HG.out⟩
  case round=>
   obtain⟨x2,S2,J,z2,i2,e2,l2,m2,t2,X0,G2⟩:=hrel
   have ag:=zc i2
   have ae:=zc e2
   have au:=zc l2
   have q:=zc m2
   have ab:=zc t2
   have K:=zc X0
   have I:=zc G2
   have aC:J.pos≤A.length:=m2.inv.pos
   obtain⟨a0,a1,a2,a3,a4,a5,a6,a7,a8,a9,Z,aa,af⟩:=X0.box
   clear i2 e2 l2 m2 t2 X0 G2
   by_cases hz:z2<0
   ·have dz:decide (z2<0)=true:=decide_eq_true hz
    obtain⟨rfl,rfl⟩:=za6 ag.out hz
    by_cases hp:J.pos<A.length
    ·have aB:=au.out hz
     go_wp2_with fail
     refine (zqc ⟨A,s.size,j⟩ g N (w.heap.size+1) S2 J _ q.out).mono ?_
     rintro e w3 ⟨S3,q3,z3,rfl,i3,m3,s3⟩
     have ax:=zc m3
     have ao:=zc i3
     have Y:Hid (Below (w.heap.size+1) wr w3):=s3.under q.out.base q.out.own
     have U:Hid (Bx g S3 w3 X.heap.size _):=K.out.stp s3
     have aw:Hid (Below w.heap.size w w3):=ab.out.trans (Y.out.mono (by omega))
     have ac:Hid (w3.heap[w.heap.size]? =some (.cells #[.slice none 0 0,.slice none 0 0,.slice none 0 0,.slice none 0 0,.slice none 0 0] 36 (0,0))):=(Y.out.block _ (by omega)).trans I.out
     have HE:Hid (bd (zy ⟨A,s.size,j⟩ J) (zap ⟨A,s.size,j⟩)=zap ⟨A,s.size,j⟩ zb0):=by
      show _=_
      rw[←ae.out,zx,zeN,if_pos hp]
     have HP:Hid (z3<0→J.pos<q3.pos):=fun h=>zeM (za6 ao.out h).1
     clear i3 m3 s3 a0 a1 a2 a3 a4 a5 a6 a7 a8 a9 Z aa af
     obtain⟨a0,a1,a2,a3,a4,a5,a6,a7,a8,a9,Z,aa,af⟩:=U.out.box
     unfold pv
     go_wp2
     go_roundg (gk-1)
     case rel=>exact⟨_,S3,q3,z3,ao.out,HE.out,fun h=>by have:=HP.out h;omega,ax.out.put U.out _ _ _ _ _ _ _ _ _ _ _ _,zb2 aw.out (by omega) _ _ _ _ _ _ _ _ _ _ _ _,U.out.put _ _ _ _ _ _ _ _ _ _ _ _,(ze3 (by omega) ..).trans ac.out⟩
     case measure=>omega
    ·have HD:Hid (zap ⟨A,s.size,j⟩ zb0= .ok J):=by
      show _=_
      rw[←ae.out,zx,zeN,if_neg hp]
     have HY:Hid (zb1 s j (.ok J)):=⟨_,HR.out,HD.out.symm⟩
     have ak:X.heap.size<wr.heap.size:=K.out.lt
     have aA:=q.out.inv.ep
     have D:=q.out.own.ep
     have Y:=q.out.base
     rcases q.out.own.la.nil_or with ⟨ha,hc,hn⟩|⟨gl,ha⟩
     ·have HN:Hid (J.la=[]):=List.eq_nil_of_length_eq_zero hn
      rw[ha,hc,hn] at a9
      obtain⟨c0,c1,c2,c3,c4,cf⟩:=zi I.out
      clear ha hc hn
      go_wp2_with (at_builtin;refine zkf _ rfl _ _ 32 rfl 86 i0 Tryz.underlying32 hi (w.heap.size+1) 4 J.ep.length S2.ep _ (by rfl) D (by rfl) ?_)
      clear D
      go_wp2
      refine bodyPost_ret (zay rfl _ _ w.heap.size 36 _ (0,0) _ rfl (zcJ ((zt (by omega)).trans I.out)) Tryz.underlying36 rfl (by kernel_rfl)) rfl ?_
      refine⟨⟨_,HY.out,S2,by simp[zeO,HN.out],q.out.whole0 HN.out (Nat.lt_succ_self _) K.out.free fun k M h2=>?_⟩,zcS (ab.out.setCell (by show _≤X.heap.size;omega) _) (Nat.le_refl _) _ _ _ _ _⟩
      rw[zt M,zt M,zt M,zt M,zt M,zt h2]
     ·have al:OwnR wr (w.heap.size+1) 86 4 ⟨some ⟨gl,0,none⟩,S2.la.cap⟩ J.la.length (J.la.flatMap epL):=by have:=q.out.own.la;unfold OwnR at this ⊢;rw[ha] at this;exact this
      rw[ha] at a9
      go_wp2_with (at_builtin;refine zke _ rfl _ _ 32 rfl (w.heap.size+1) 86 i0 _ 4 56 Tryz.underlying32 hi aq ay av rfl (by decide) (by decide) S2.ep J.ep.length _ (by rfl) D gl J.la.length S2.la.cap (w.heap.size+1) _ (by rfl) al (zfG _) (by omega) Y ?_)
      intro r' w3 hr hg an
      have az:=zc hr
      have H:=zc hg
      have ar:=zc an
      have ap:=fun b hb=>zdj (W:=wr) q.out.own (Nat.le_refl _) (r:=S2.ep.blk) (fun k e=>.inr (.inr (.inl e))) b hb
      have U:Hid (w3.heap[X.heap.size]? =_):=(hg.block _ ak (fun e=>K.out.free (.inr (.inr (.inl e.symm))))).trans K.out.heap
      have ac:Hid (w3.heap[w.heap.size]? =_):=(hg.block _ (by omega) (fun e=>by have:=(D.typed e.symm).1;omega)).trans I.out
      clear a0 a1 a2 a3 a4 a5 a6 a7 a8 a9 Z aa af hr hg an ap D al
      obtain⟨a0,a1,a2,a3,a4,a5,a6,a7,a8,a9,Z,aa,af⟩:=zaf U.out
      obtain⟨c0,c1,c2,c3,c4,cf⟩:=zi ac.out
      go_wp2
      refine bodyPost_ret (zay rfl _ _ w.heap.size 36 _ (0,0) _ rfl (zcJ ((zt (by omega)).trans ac.out)) Tryz.underlying36 rfl (by kernel_rfl)) rfl ?_
      refine⟨⟨_,HY.out,{S2 with ep:=r'},by simp[zeO],q.out.whole H.out az.out ar.out (Nat.lt_succ_self _) ak K.out.free fun k M h2=>?_⟩,zcS ((ab.out.trans (Below.mono (B:=w.heap.size+1) ⟨H.out.os,H.out.tape,H.out.output,H.out.size,fun k hk=>H.out.block k (by omega) fun e=>by have:=(q.out.own.ep.typed e.symm).1;omega⟩ (by omega))).setCell (by show _≤X.heap.size;omega) _) (Nat.le_refl _) _ _ _ _ _⟩
      rw[zt M,zt M,zt M,zt M,zt M,zt h2]
   ·have dz:decide (z2<0)=false:=decide_eq_false hz
    obtain⟨e0,rfl,rfl⟩:=zcM ag.out hz
    have aD:decide ((0:Int)≤(e0:Int))=true:=decide_eq_true (by omega)
    have HY:Hid (zb1 s j (.error e0)):=⟨_,HR.out,(show (.error e0:PR)=zap ⟨A,s.size,j⟩ zb0 from ae.out)⟩
    obtain⟨c0,c1,c2,c3,c4,cf⟩:=zi I.out
    go_wp2
    go_region
    all_goals
     go_wp2
     refine bodyPost_ret (zay rfl _ _ w.heap.size 36 _ (0,0) _ rfl (zcJ I.out) Tryz.underlying36 rfl (by kernel_rfl)) rfl ?_
     exact⟨⟨_,HY.out,rfl⟩,(zcS ab.out (Nat.le_refl _) ..).drew⟩
end Go.Proofs.YtjdddblpfbmpaaaGreat
