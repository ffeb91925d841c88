/-
  PUT: an op is written.
  No conditions but sizes.
-/
import Derived.Test.YtfgnmnkihbgjnaaGreatSh
import Derived.Test.YtfgnmnkihbgjnaaGreatGF
import Derived.Test.YtfgnmnkihbgjnaaGreatGE
set_option maxRecDepth 100000
set_option maxHeartbeats 4000000
namespace Go.Proofs.YtfgnmnkihbgjnaaGreat
open Go.RowKit
structure PuO (w0:World) (X o PB B:Nat) (p:Prt) (x:Opp) (q:Option Addr) (c:Nat) (l:List UInt8) (w:World):Prop where
 hX:w0.heap.size≤X
 hXo:X<o
 hoP:o<PB
 hPB:PB<B
 op:OpAt w X x q c
 pr:PrAt w PB p
 pa:Pa w0 x q c
 below:Below w0.heap.size w0 w
 out:Out w B o l
theorem PuO.kept {w0 w w':World} {X o PB B:Nat} {p:Prt} {x:Opp} {q:Option Addr} {c:Nat} {l:List UInt8} (h:PuO w0 X o PB B p x q c l w) (hb:Below w.heap.size w w'):PuO w0 X o PB B p x q c l w' :=
 {h with op:=h.op.kept hb,pr:=h.pr.kept hb,below:=h.below.trans (hb.mono h.below.size),out:=h.out.kept hb }
theorem PuO.add {w0 w w':World} {X o PB B:Nat} {p:Prt} {x:Opp} {q:Option Addr} {c:Nat} {l m:List UInt8} (h:PuO w0 X o PB B p x q c l w) (ho:Out w' B o m) (hc:Chg o B w w'):PuO w0 X o PB B p x q c m w':=by
 have h1:=h.hX; have h2:=h.hXo; have h3:=h.hoP; have h4:=h.hPB
 exact ⟨h1,h2,h3,h4,h.op.block (hc.block X (by omega) (by omega)),h.pr.block (hc.block PB (by omega) (by omega)),h.pa,
  h.below.trans ⟨hc.os,hc.tape,hc.output,hc.size,fun k hk=>hc.block k (by omega) (by omega)⟩,ho⟩
theorem PuO.paw {w0 w:World} {X o PB B:Nat} {p:Prt} {x:Opp} {q:Option Addr} {c:Nat} {l:List UInt8} (h:PuO w0 X o PB B p x q c l w):Pa w x q c:=h.pa.kept h.below
theorem putW_ok {t r:Int} (h:rightB t r=true):putW t r=(stB t r,0):=by unfold putW stB; rw [if_pos h]
theorem numW_ok {n:Int} (h0:0≤n) (h1:n≤281474976710655):numW n=(Wm.numB n.toNat,0):=by unfold numW; rw [if_pos ⟨h0,h1⟩]
theorem textW_ok {s:ByteArray} (h:s.size≤1048576):textW s.data.toList=(txB s,0):=by unfold textW txB; rw [str_len,if_pos h]
theorem putV_ok {k n:Int} {t:ByteArray} (h:Vm.rightV k n t.data.toList=true):putV k n t.data.toList=(vlB k n t,0):=by unfold putV vlB; rw [if_pos h]
theorem stB_len (t r:Int):(stB t r).length≤14:=by
 unfold stB
 have h1:=numB_small t.toNat
 have h2:=numB_small r.toNat
 rw [List.length_append]; omega
theorem txB_len {k:ByteArray} (h:k.size≤24):(txB k).length≤31:=by
 unfold txB
 have:=numB_small k.size
 rw [List.length_append,str_len]; omega
theorem vlB_len {k n:Int} {t:ByteArray} (h:Vm.rightV k n t.data.toList=true):(vlB k n t).length≤100:=by
 unfold vlB restV
 have h1:=numB_small k.toNat
 have h2:=numB_small n.toNat
 have h3:=numB_small (foldV n)
 have h4:=numB_small t.data.toList.length
 rw [List.length_append]
 split
 ·next e=>subst e; have:=(right_text h).2; rw [List.length_append]; omega
 ·split
  ·omega
  ·split
   ·simp; omega
   ·omega
theorem paB_len (l:List Qm.St):(paB l).length≤14 * l.length:=by
 induction l with
 | nil=>simp [paB]
 | cons s l ih =>
  have e:paB (s :: l)=stB s.1 s.2 ++ paB l:=by simp [paB]
  have:=stB_len s.1 s.2
  rw [e,List.length_append,List.length_cons]; omega
theorem paB_take {l:List Qm.St} {k:Nat} (h:k<l.length):paB (l.take (k+1))=paB (l.take k) ++ stB (Qm.stOf l k).1 (Qm.stOf l k).2:=by
 rw [List.take_succ_eq_append_getElem h]
 have:Qm.stOf l k=l[k]:=by simp [Qm.stOf,h]
 rw [this,paB,List.flatMap_append,List.flatMap_cons,List.flatMap_nil,List.append_nil]
 rfl
theorem stOf_mem {l:List Qm.St} {k:Nat} (h:k<l.length):Qm.stOf l k ∈ l:=by
 have:Qm.stOf l k=l[k]:=by simp [Qm.stOf,h]
 rw [this]; exact List.getElem_mem h
theorem put1_any (x:Opp) (q:Option Addr) (c:Nat) (w:World) (hs:Sz x) (ha:Pa w x q c) (hk:x.k=1) (hr:rightO x=true):Calls Tryz.prog 74 #[.agg (opA x q c)] w (Wrote 5 w (opB x,0)):=by
 have HOB:=Hi (show opB x=Wm.numB 1 ++ (stB x.rt x.rr ++ txB x.key) from by unfold opB tailB; rw [hk,if_pos rfl]; rfl)
 obtain ⟨f1,f2,-⟩:=right1 hr hk
 have HW0:=Hi (numW_ok (n:=1) (by decide) (by decide))
 have l0:=numB_small 1
 have HNM:=Hi (fun W=>num_any 1 W)
 rw [HW0.out] at HNM
 change Hid (∀ W,Calls Tryz.prog 73 #[.int .i64 1] W (Wrote 5 W (Wm.numB 1,0))) at HNM
 generalize Wm.numB 1=m0 at *
 have HCmr:=Hi (fun W=>put_any x.rt x.rr W)
 rw [putW_ok f1] at HCmr
 have lmr:=stB_len x.rt x.rr
 generalize stB x.rt x.rr=mr at *
 have HCmk:=Hi (fun W=>text_any x.key W (by have:=hs.key; unfold maxLen; omega))
 rw [textW_ok (by have:=key_small f2; omega)] at HCmk
 have lmk:=txB_len (key_small f2)
 generalize txB x.key=mk at *
 have HK:=Hi hk
 have HRI:=Hi hr
 have HPA:=Hi ha
 have HS:=Hi hs
 obtain ⟨HX,HA,HB⟩:=right_start w x q c ha
 have hx:=HX.out
 clear hk hr ha hs
 go_enter Tryz.func74,Tryz.ntmps74
 go_wp2_with (refine wpList_load_op otP rfl _ rfl _ rfl _ _ _ (by assumption) ?_)
 refine (oright_any x q c _ HS.out HA.out).mono ?_
 rw [HRI.out]
 rintro e w1 ⟨rfl,hb1⟩
 have hxa:=HX.out.kept hb1
 have hb2:=(Below.refl w1.heap.size w1).alloc (Nat.le_refl _) (.cells #[.slice none 0 0] 103)
 have hbw1:=HB.out.trans (hb1.mono HB.out.size)
 have hlx:=hxa.lt
 have HX1:=Hi (hxa.kept hb2)
 have HB1:=Hi (hbw1.alloc hbw1.size (.cells #[.slice none 0 0] 103))
 have HO1:=Hi (show (w1.alloc (.cells #[.slice none 0 0] 103)).cell? ⟨w1.heap.size,0,none⟩=some (.slice none 0 0)∧(w1.alloc (.cells #[.slice none 0 0] 103)).frozen? ⟨w1.heap.size,0,none⟩=false from
  ⟨by rw [World.cell?_alloc_at _ _ _ _ rfl]; rfl,World.frozen?_alloc_at _ _ _ _ rfl⟩)
 clear hb1 hb2 hbw1 hxa hx
 obtain ⟨x0,-⟩:=HX1.out.cells
 rw [HK.out] at x0
 have HNA:=Hi (fun W=>named_any 1 W)
 go_wp2_with fail
 refine (HNA.out _).mono ?_
 rintro e w2 ⟨rfl,hb2⟩
 have hx2:=HX1.out.kept hb2
 have hb3:=(Below.refl w2.heap.size w2).alloc (Nat.le_refl _) (.cells #[.bool false,.bool true,.bool false,.bool false,.bool false,.bool false] 156)
 have hsz:w1.heap.size<w2.heap.size:=by have:=hb2.size; simp at this; omega
 have T:=Hi (show PuO w w.heap.size w1.heap.size w2.heap.size (w2.heap.size+1) ⟨false,true,false,false,false,false⟩ x q c [] (w2.alloc (.cells #[.bool false,.bool true,.bool false,.bool false,.bool false,.bool false] 156)) from
  {hX:=Nat.le_refl _,hXo:=hlx,hoP:=hsz,hPB:=Nat.lt_succ_self _,op:=hx2.kept hb3,pr:=PrAt.new w2 ⟨false,true,false,false,false,false⟩ 156,pa:=HPA.out,below:=(HB1.out.trans (hb2.mono HB1.out.size)).trans (hb3.mono (by have:=HB1.out.size; have:=hb2.size; omega)),
   out:=⟨by omega,by simp,by rw [hb3.frozen (by simpa using hsz),hb2.frozen (by simp)]; exact HO1.out.2,.slice none 0 0,by rw [hb3.cell (by simpa using hsz),hb2.cell (by simp)]; exact HO1.out.1,Own.nil _ _ _⟩ })
 have hpr:prA (prt 1)=#[.bool false,.bool true,.bool false,.bool false,.bool false,.bool false]:=rfl
 clear HX1 HB1 HO1 hb2 hb3 hx2 x0 HB HX HA
 obtain ⟨p0,p1,p2,p3,p4,p5⟩:=T.out.pr.cells
 obtain ⟨x0,x1,x2,x3,x4,x5,x6,x7,x8,x9,x10,x11⟩:=T.out.op.cells
 dsimp only at p0 p1 p2 p3 p4 p5
 rw [HK.out] at x0
 go_wp2_with fail
 refine (HNM.out _).mono ?_
 rintro e wa ⟨va,rfl,hown,hb⟩
 dsimp only at hown
 obtain ⟨pa,ka,rfl,hbs,-,-,hpn,-⟩:=hown.bs
 replace T:=Hi (T.out.kept hb)
 have HBS:=Hi hbs
 clear hown hbs hb p0 p1 p2 p3 p4 p5 x0 x1 x2 x3 x4 x5 x6 x7 x8 x9 x10 x11
 go_wp2_with fail
 refine (add_any _ _ _ _ pa ka _ _ T.out.out HBS.out hpn ?_).mono ?_
 ·simp; omega
 rintro e wb ⟨rfl,hout,hchg⟩
 replace T:=Hi (T.out.add hout hchg)
 clear hout hchg HBS hpn
 obtain ⟨p0,p1,p2,p3,p4,p5⟩:=T.out.pr.cells
 obtain ⟨x0,x1,x2,x3,x4,x5,x6,x7,x8,x9,x10,x11⟩:=T.out.op.cells
 dsimp only at p0 p1 p2 p3 p4 p5
 rw [HK.out] at x0
 go_wp2_with fail
 refine (HCmr.out _).mono ?_
 rintro e wa ⟨va,rfl,hown,hb⟩
 dsimp only at hown
 obtain ⟨pa,ka,rfl,hbs,-,-,hpn,-⟩:=hown.bs
 replace T:=Hi (T.out.kept hb)
 have HBS:=Hi hbs
 clear hown hbs hb p0 p1 p2 p3 p4 p5 x0 x1 x2 x3 x4 x5 x6 x7 x8 x9 x10 x11
 go_wp2_with fail
 refine (add_any _ _ _ _ pa ka _ _ T.out.out HBS.out hpn ?_).mono ?_
 ·simp; omega
 rintro e wb ⟨rfl,hout,hchg⟩
 replace T:=Hi (T.out.add hout hchg)
 clear hout hchg HBS hpn
 obtain ⟨p0,p1,p2,p3,p4,p5⟩:=T.out.pr.cells
 obtain ⟨x0,x1,x2,x3,x4,x5,x6,x7,x8,x9,x10,x11⟩:=T.out.op.cells
 dsimp only at p0 p1 p2 p3 p4 p5
 rw [HK.out] at x0
 go_wp2_with fail
 refine (HCmk.out _).mono ?_
 rintro e wa ⟨va,rfl,hown,hb⟩
 dsimp only at hown
 obtain ⟨pa,ka,rfl,hbs,-,-,hpn,-⟩:=hown.bs
 replace T:=Hi (T.out.kept hb)
 have HBS:=Hi hbs
 clear hown hbs hb p0 p1 p2 p3 p4 p5 x0 x1 x2 x3 x4 x5 x6 x7 x8 x9 x10 x11
 go_wp2_with fail
 refine (add_any _ _ _ _ pa ka _ _ T.out.out HBS.out hpn ?_).mono ?_
 ·simp; omega
 rintro e wb ⟨rfl,hout,hchg⟩
 replace T:=Hi (T.out.add hout hchg)
 clear hout hchg HBS hpn
 obtain ⟨p0,p1,p2,p3,p4,p5⟩:=T.out.pr.cells
 obtain ⟨x0,x1,x2,x3,x4,x5,x6,x7,x8,x9,x10,x11⟩:=T.out.op.cells
 dsimp only at p0 p1 p2 p3 p4 p5
 rw [HK.out] at x0
 obtain ⟨v,hv,hown⟩:=T.out.out.row
 obtain ⟨pz,kz,rfl,-⟩:=hown.bs
 have HOW:=Hi hown
 clear hown
 go_wp2
 go_ret2
 rw [HOB.out]
 exact ⟨_,rfl,by
  have h:=HOW.out.base (B':=w.heap.size) (by have h1:=T.out.hX; have h2:=T.out.hXo; have h3:=T.out.hoP; have h4:=T.out.hPB; omega)
  simpa [List.append_assoc] using h,T.out.below⟩
theorem put2_any (x:Opp) (q:Option Addr) (c:Nat) (w:World) (hs:Sz x) (ha:Pa w x q c) (hk:x.k=2) (hr:rightO x=true):Calls Tryz.prog 74 #[.agg (opA x q c)] w (Wrote 5 w (opB x,0)):=by
 have HOB:=Hi (show opB x=Wm.numB 2 ++ (stB x.nt x.nr ++ stB x.rt x.rr ++ txB x.key) from by unfold opB tailB; rw [hk,if_neg (by decide),if_pos rfl]; rfl)
 obtain ⟨f0,f1,f2,-⟩:=right2 hr hk
 have HW0:=Hi (numW_ok (n:=2) (by decide) (by decide))
 have l0:=numB_small 2
 have HNM:=Hi (fun W=>num_any 2 W)
 rw [HW0.out] at HNM
 change Hid (∀ W,Calls Tryz.prog 73 #[.int .i64 2] W (Wrote 5 W (Wm.numB 2,0))) at HNM
 generalize Wm.numB 2=m0 at *
 have HCmn:=Hi (fun W=>put_any x.nt x.nr W)
 rw [putW_ok f0] at HCmn
 have lmn:=stB_len x.nt x.nr
 generalize stB x.nt x.nr=mn at *
 have HCmr:=Hi (fun W=>put_any x.rt x.rr W)
 rw [putW_ok f1] at HCmr
 have lmr:=stB_len x.rt x.rr
 generalize stB x.rt x.rr=mr at *
 have HCmk:=Hi (fun W=>text_any x.key W (by have:=hs.key; unfold maxLen; omega))
 rw [textW_ok (by have:=key_small f2; omega)] at HCmk
 have lmk:=txB_len (key_small f2)
 generalize txB x.key=mk at *
 have HK:=Hi hk
 have HRI:=Hi hr
 have HPA:=Hi ha
 have HS:=Hi hs
 obtain ⟨HX,HA,HB⟩:=right_start w x q c ha
 have hx:=HX.out
 clear hk hr ha hs
 go_enter Tryz.func74,Tryz.ntmps74
 go_wp2_with (refine wpList_load_op otP rfl _ rfl _ rfl _ _ _ (by assumption) ?_)
 refine (oright_any x q c _ HS.out HA.out).mono ?_
 rw [HRI.out]
 rintro e w1 ⟨rfl,hb1⟩
 have hxa:=HX.out.kept hb1
 have hb2:=(Below.refl w1.heap.size w1).alloc (Nat.le_refl _) (.cells #[.slice none 0 0] 103)
 have hbw1:=HB.out.trans (hb1.mono HB.out.size)
 have hlx:=hxa.lt
 have HX1:=Hi (hxa.kept hb2)
 have HB1:=Hi (hbw1.alloc hbw1.size (.cells #[.slice none 0 0] 103))
 have HO1:=Hi (show (w1.alloc (.cells #[.slice none 0 0] 103)).cell? ⟨w1.heap.size,0,none⟩=some (.slice none 0 0)∧(w1.alloc (.cells #[.slice none 0 0] 103)).frozen? ⟨w1.heap.size,0,none⟩=false from
  ⟨by rw [World.cell?_alloc_at _ _ _ _ rfl]; rfl,World.frozen?_alloc_at _ _ _ _ rfl⟩)
 clear hb1 hb2 hbw1 hxa hx
 obtain ⟨x0,-⟩:=HX1.out.cells
 rw [HK.out] at x0
 have HNA:=Hi (fun W=>named_any 2 W)
 go_wp2_with fail
 refine (HNA.out _).mono ?_
 rintro e w2 ⟨rfl,hb2⟩
 have hx2:=HX1.out.kept hb2
 have hb3:=(Below.refl w2.heap.size w2).alloc (Nat.le_refl _) (.cells #[.bool true,.bool true,.bool false,.bool false,.bool false,.bool false] 156)
 have hsz:w1.heap.size<w2.heap.size:=by have:=hb2.size; simp at this; omega
 have T:=Hi (show PuO w w.heap.size w1.heap.size w2.heap.size (w2.heap.size+1) ⟨true,true,false,false,false,false⟩ x q c [] (w2.alloc (.cells #[.bool true,.bool true,.bool false,.bool false,.bool false,.bool false] 156)) from
  {hX:=Nat.le_refl _,hXo:=hlx,hoP:=hsz,hPB:=Nat.lt_succ_self _,op:=hx2.kept hb3,pr:=PrAt.new w2 ⟨true,true,false,false,false,false⟩ 156,pa:=HPA.out,below:=(HB1.out.trans (hb2.mono HB1.out.size)).trans (hb3.mono (by have:=HB1.out.size; have:=hb2.size; omega)),
   out:=⟨by omega,by simp,by rw [hb3.frozen (by simpa using hsz),hb2.frozen (by simp)]; exact HO1.out.2,.slice none 0 0,by rw [hb3.cell (by simpa using hsz),hb2.cell (by simp)]; exact HO1.out.1,Own.nil _ _ _⟩ })
 have hpr:prA (prt 2)=#[.bool true,.bool true,.bool false,.bool false,.bool false,.bool false]:=rfl
 clear HX1 HB1 HO1 hb2 hb3 hx2 x0 HB HX HA
 obtain ⟨p0,p1,p2,p3,p4,p5⟩:=T.out.pr.cells
 obtain ⟨x0,x1,x2,x3,x4,x5,x6,x7,x8,x9,x10,x11⟩:=T.out.op.cells
 dsimp only at p0 p1 p2 p3 p4 p5
 rw [HK.out] at x0
 go_wp2_with fail
 refine (HNM.out _).mono ?_
 rintro e wa ⟨va,rfl,hown,hb⟩
 dsimp only at hown
 obtain ⟨pa,ka,rfl,hbs,-,-,hpn,-⟩:=hown.bs
 replace T:=Hi (T.out.kept hb)
 have HBS:=Hi hbs
 clear hown hbs hb p0 p1 p2 p3 p4 p5 x0 x1 x2 x3 x4 x5 x6 x7 x8 x9 x10 x11
 go_wp2_with fail
 refine (add_any _ _ _ _ pa ka _ _ T.out.out HBS.out hpn ?_).mono ?_
 ·simp; omega
 rintro e wb ⟨rfl,hout,hchg⟩
 replace T:=Hi (T.out.add hout hchg)
 clear hout hchg HBS hpn
 obtain ⟨p0,p1,p2,p3,p4,p5⟩:=T.out.pr.cells
 obtain ⟨x0,x1,x2,x3,x4,x5,x6,x7,x8,x9,x10,x11⟩:=T.out.op.cells
 dsimp only at p0 p1 p2 p3 p4 p5
 rw [HK.out] at x0
 go_wp2_with fail
 refine (HCmn.out _).mono ?_
 rintro e wa ⟨va,rfl,hown,hb⟩
 dsimp only at hown
 obtain ⟨pa,ka,rfl,hbs,-,-,hpn,-⟩:=hown.bs
 replace T:=Hi (T.out.kept hb)
 have HBS:=Hi hbs
 clear hown hbs hb p0 p1 p2 p3 p4 p5 x0 x1 x2 x3 x4 x5 x6 x7 x8 x9 x10 x11
 go_wp2_with fail
 refine (add_any _ _ _ _ pa ka _ _ T.out.out HBS.out hpn ?_).mono ?_
 ·simp; omega
 rintro e wb ⟨rfl,hout,hchg⟩
 replace T:=Hi (T.out.add hout hchg)
 clear hout hchg HBS hpn
 obtain ⟨p0,p1,p2,p3,p4,p5⟩:=T.out.pr.cells
 obtain ⟨x0,x1,x2,x3,x4,x5,x6,x7,x8,x9,x10,x11⟩:=T.out.op.cells
 dsimp only at p0 p1 p2 p3 p4 p5
 rw [HK.out] at x0
 go_wp2_with fail
 refine (HCmr.out _).mono ?_
 rintro e wa ⟨va,rfl,hown,hb⟩
 dsimp only at hown
 obtain ⟨pa,ka,rfl,hbs,-,-,hpn,-⟩:=hown.bs
 replace T:=Hi (T.out.kept hb)
 have HBS:=Hi hbs
 clear hown hbs hb p0 p1 p2 p3 p4 p5 x0 x1 x2 x3 x4 x5 x6 x7 x8 x9 x10 x11
 go_wp2_with fail
 refine (add_any _ _ _ _ pa ka _ _ T.out.out HBS.out hpn ?_).mono ?_
 ·simp; omega
 rintro e wb ⟨rfl,hout,hchg⟩
 replace T:=Hi (T.out.add hout hchg)
 clear hout hchg HBS hpn
 obtain ⟨p0,p1,p2,p3,p4,p5⟩:=T.out.pr.cells
 obtain ⟨x0,x1,x2,x3,x4,x5,x6,x7,x8,x9,x10,x11⟩:=T.out.op.cells
 dsimp only at p0 p1 p2 p3 p4 p5
 rw [HK.out] at x0
 go_wp2_with fail
 refine (HCmk.out _).mono ?_
 rintro e wa ⟨va,rfl,hown,hb⟩
 dsimp only at hown
 obtain ⟨pa,ka,rfl,hbs,-,-,hpn,-⟩:=hown.bs
 replace T:=Hi (T.out.kept hb)
 have HBS:=Hi hbs
 clear hown hbs hb p0 p1 p2 p3 p4 p5 x0 x1 x2 x3 x4 x5 x6 x7 x8 x9 x10 x11
 go_wp2_with fail
 refine (add_any _ _ _ _ pa ka _ _ T.out.out HBS.out hpn ?_).mono ?_
 ·simp; omega
 rintro e wb ⟨rfl,hout,hchg⟩
 replace T:=Hi (T.out.add hout hchg)
 clear hout hchg HBS hpn
 obtain ⟨p0,p1,p2,p3,p4,p5⟩:=T.out.pr.cells
 obtain ⟨x0,x1,x2,x3,x4,x5,x6,x7,x8,x9,x10,x11⟩:=T.out.op.cells
 dsimp only at p0 p1 p2 p3 p4 p5
 rw [HK.out] at x0
 obtain ⟨v,hv,hown⟩:=T.out.out.row
 obtain ⟨pz,kz,rfl,-⟩:=hown.bs
 have HOW:=Hi hown
 clear hown
 go_wp2
 go_ret2
 rw [HOB.out]
 exact ⟨_,rfl,by
  have h:=HOW.out.base (B':=w.heap.size) (by have h1:=T.out.hX; have h2:=T.out.hXo; have h3:=T.out.hoP; have h4:=T.out.hPB; omega)
  simpa [List.append_assoc] using h,T.out.below⟩
theorem put3_any (x:Opp) (q:Option Addr) (c:Nat) (w:World) (hs:Sz x) (ha:Pa w x q c) (hk:x.k=3) (hr:rightO x=true):Calls Tryz.prog 74 #[.agg (opA x q c)] w (Wrote 5 w (opB x,0)):=by
 have HOB:=Hi (show opB x=Wm.numB 3 ++ (stB x.nt x.nr ++ Wm.numB x.p.toNat ++ vlB x.vk x.vn x.vt) from by unfold opB tailB; rw [hk,if_neg (by decide),if_neg (by decide),if_pos rfl]; rfl)
 obtain ⟨f0,f3,-⟩:=right3 hr hk
 have HW0:=Hi (numW_ok (n:=3) (by decide) (by decide))
 have l0:=numB_small 3
 have HNM:=Hi (fun W=>num_any 3 W)
 rw [HW0.out] at HNM
 change Hid (∀ W,Calls Tryz.prog 73 #[.int .i64 3] W (Wrote 5 W (Wm.numB 3,0))) at HNM
 generalize Wm.numB 3=m0 at *
 have HCmn:=Hi (fun W=>put_any x.nt x.nr W)
 rw [putW_ok f0] at HCmn
 have lmn:=stB_len x.nt x.nr
 generalize stB x.nt x.nr=mn at *
 obtain ⟨g1,g8,f5⟩:=right8_facts f3
 have HCmp:=Hi (fun W=>num_any x.p W)
 rw [numW_ok (n:=x.p) (by omega) (by omega)] at HCmp
 have lmp:=numB_small x.p.toNat
 generalize Wm.numB x.p.toNat=mp at *
 have HCmv:=Hi (fun W=>vput_any x.vk x.vn x.vt W hs.val)
 rw [putV_ok f5] at HCmv
 have lmv:=vlB_len f5
 generalize vlB x.vk x.vn x.vt=mv at *
 have HK:=Hi hk
 have HRI:=Hi hr
 have HPA:=Hi ha
 have HS:=Hi hs
 obtain ⟨HX,HA,HB⟩:=right_start w x q c ha
 have hx:=HX.out
 clear hk hr ha hs
 go_enter Tryz.func74,Tryz.ntmps74
 go_wp2_with (refine wpList_load_op otP rfl _ rfl _ rfl _ _ _ (by assumption) ?_)
 refine (oright_any x q c _ HS.out HA.out).mono ?_
 rw [HRI.out]
 rintro e w1 ⟨rfl,hb1⟩
 have hxa:=HX.out.kept hb1
 have hb2:=(Below.refl w1.heap.size w1).alloc (Nat.le_refl _) (.cells #[.slice none 0 0] 103)
 have hbw1:=HB.out.trans (hb1.mono HB.out.size)
 have hlx:=hxa.lt
 have HX1:=Hi (hxa.kept hb2)
 have HB1:=Hi (hbw1.alloc hbw1.size (.cells #[.slice none 0 0] 103))
 have HO1:=Hi (show (w1.alloc (.cells #[.slice none 0 0] 103)).cell? ⟨w1.heap.size,0,none⟩=some (.slice none 0 0)∧(w1.alloc (.cells #[.slice none 0 0] 103)).frozen? ⟨w1.heap.size,0,none⟩=false from
  ⟨by rw [World.cell?_alloc_at _ _ _ _ rfl]; rfl,World.frozen?_alloc_at _ _ _ _ rfl⟩)
 clear hb1 hb2 hbw1 hxa hx
 obtain ⟨x0,-⟩:=HX1.out.cells
 rw [HK.out] at x0
 have HNA:=Hi (fun W=>named_any 3 W)
 go_wp2_with fail
 refine (HNA.out _).mono ?_
 rintro e w2 ⟨rfl,hb2⟩
 have hx2:=HX1.out.kept hb2
 have hb3:=(Below.refl w2.heap.size w2).alloc (Nat.le_refl _) (.cells #[.bool true,.bool false,.bool false,.bool false,.bool true,.bool false] 156)
 have hsz:w1.heap.size<w2.heap.size:=by have:=hb2.size; simp at this; omega
 have T:=Hi (show PuO w w.heap.size w1.heap.size w2.heap.size (w2.heap.size+1) ⟨true,false,false,false,true,false⟩ x q c [] (w2.alloc (.cells #[.bool true,.bool false,.bool false,.bool false,.bool true,.bool false] 156)) from
  {hX:=Nat.le_refl _,hXo:=hlx,hoP:=hsz,hPB:=Nat.lt_succ_self _,op:=hx2.kept hb3,pr:=PrAt.new w2 ⟨true,false,false,false,true,false⟩ 156,pa:=HPA.out,below:=(HB1.out.trans (hb2.mono HB1.out.size)).trans (hb3.mono (by have:=HB1.out.size; have:=hb2.size; omega)),
   out:=⟨by omega,by simp,by rw [hb3.frozen (by simpa using hsz),hb2.frozen (by simp)]; exact HO1.out.2,.slice none 0 0,by rw [hb3.cell (by simpa using hsz),hb2.cell (by simp)]; exact HO1.out.1,Own.nil _ _ _⟩ })
 have hpr:prA (prt 3)=#[.bool true,.bool false,.bool false,.bool false,.bool true,.bool false]:=rfl
 clear HX1 HB1 HO1 hb2 hb3 hx2 x0 HB HX HA
 obtain ⟨p0,p1,p2,p3,p4,p5⟩:=T.out.pr.cells
 obtain ⟨x0,x1,x2,x3,x4,x5,x6,x7,x8,x9,x10,x11⟩:=T.out.op.cells
 dsimp only at p0 p1 p2 p3 p4 p5
 rw [HK.out] at x0
 go_wp2_with fail
 refine (HNM.out _).mono ?_
 rintro e wa ⟨va,rfl,hown,hb⟩
 dsimp only at hown
 obtain ⟨pa,ka,rfl,hbs,-,-,hpn,-⟩:=hown.bs
 replace T:=Hi (T.out.kept hb)
 have HBS:=Hi hbs
 clear hown hbs hb p0 p1 p2 p3 p4 p5 x0 x1 x2 x3 x4 x5 x6 x7 x8 x9 x10 x11
 go_wp2_with fail
 refine (add_any _ _ _ _ pa ka _ _ T.out.out HBS.out hpn ?_).mono ?_
 ·simp; omega
 rintro e wb ⟨rfl,hout,hchg⟩
 replace T:=Hi (T.out.add hout hchg)
 clear hout hchg HBS hpn
 obtain ⟨p0,p1,p2,p3,p4,p5⟩:=T.out.pr.cells
 obtain ⟨x0,x1,x2,x3,x4,x5,x6,x7,x8,x9,x10,x11⟩:=T.out.op.cells
 dsimp only at p0 p1 p2 p3 p4 p5
 rw [HK.out] at x0
 go_wp2_with fail
 refine (HCmn.out _).mono ?_
 rintro e wa ⟨va,rfl,hown,hb⟩
 dsimp only at hown
 obtain ⟨pa,ka,rfl,hbs,-,-,hpn,-⟩:=hown.bs
 replace T:=Hi (T.out.kept hb)
 have HBS:=Hi hbs
 clear hown hbs hb p0 p1 p2 p3 p4 p5 x0 x1 x2 x3 x4 x5 x6 x7 x8 x9 x10 x11
 go_wp2_with fail
 refine (add_any _ _ _ _ pa ka _ _ T.out.out HBS.out hpn ?_).mono ?_
 ·simp; omega
 rintro e wb ⟨rfl,hout,hchg⟩
 replace T:=Hi (T.out.add hout hchg)
 clear hout hchg HBS hpn
 obtain ⟨p0,p1,p2,p3,p4,p5⟩:=T.out.pr.cells
 obtain ⟨x0,x1,x2,x3,x4,x5,x6,x7,x8,x9,x10,x11⟩:=T.out.op.cells
 dsimp only at p0 p1 p2 p3 p4 p5
 rw [HK.out] at x0
 go_wp2_with fail
 refine (HCmp.out _).mono ?_
 rintro e wa ⟨va,rfl,hown,hb⟩
 dsimp only at hown
 obtain ⟨pa,ka,rfl,hbs,-,-,hpn,-⟩:=hown.bs
 replace T:=Hi (T.out.kept hb)
 have HBS:=Hi hbs
 clear hown hbs hb p0 p1 p2 p3 p4 p5 x0 x1 x2 x3 x4 x5 x6 x7 x8 x9 x10 x11
 go_wp2_with fail
 refine (add_any _ _ _ _ pa ka _ _ T.out.out HBS.out hpn ?_).mono ?_
 ·simp; omega
 rintro e wb ⟨rfl,hout,hchg⟩
 replace T:=Hi (T.out.add hout hchg)
 clear hout hchg HBS hpn
 obtain ⟨p0,p1,p2,p3,p4,p5⟩:=T.out.pr.cells
 obtain ⟨x0,x1,x2,x3,x4,x5,x6,x7,x8,x9,x10,x11⟩:=T.out.op.cells
 dsimp only at p0 p1 p2 p3 p4 p5
 rw [HK.out] at x0
 go_wp2_with fail
 refine (HCmv.out _).mono ?_
 rintro e wa ⟨va,rfl,hown,hb⟩
 dsimp only at hown
 obtain ⟨pa,ka,rfl,hbs,-,-,hpn,-⟩:=hown.bs
 replace T:=Hi (T.out.kept hb)
 have HBS:=Hi hbs
 clear hown hbs hb p0 p1 p2 p3 p4 p5 x0 x1 x2 x3 x4 x5 x6 x7 x8 x9 x10 x11
 go_wp2_with fail
 refine (add_any _ _ _ _ pa ka _ _ T.out.out HBS.out hpn ?_).mono ?_
 ·simp; omega
 rintro e wb ⟨rfl,hout,hchg⟩
 replace T:=Hi (T.out.add hout hchg)
 clear hout hchg HBS hpn
 obtain ⟨p0,p1,p2,p3,p4,p5⟩:=T.out.pr.cells
 obtain ⟨x0,x1,x2,x3,x4,x5,x6,x7,x8,x9,x10,x11⟩:=T.out.op.cells
 dsimp only at p0 p1 p2 p3 p4 p5
 rw [HK.out] at x0
 obtain ⟨v,hv,hown⟩:=T.out.out.row
 obtain ⟨pz,kz,rfl,-⟩:=hown.bs
 have HOW:=Hi hown
 clear hown
 go_wp2
 go_ret2
 rw [HOB.out]
 exact ⟨_,rfl,by
  have h:=HOW.out.base (B':=w.heap.size) (by have h1:=T.out.hX; have h2:=T.out.hXo; have h3:=T.out.hoP; have h4:=T.out.hPB; omega)
  simpa [List.append_assoc] using h,T.out.below⟩
theorem put4_any (x:Opp) (q:Option Addr) (c:Nat) (w:World) (hs:Sz x) (ha:Pa w x q c) (hk:x.k=4) (hr:rightO x=true):Calls Tryz.prog 74 #[.agg (opA x q c)] w (Wrote 5 w (opB x,0)):=by
 have HOB:=Hi (show opB x=Wm.numB 4 ++ (stB x.nt x.nr ++ Wm.numB (digO x.on)) from by unfold opB tailB; rw [hk,if_neg (by decide),if_neg (by decide),if_neg (by decide),if_pos rfl]; rfl)
 obtain ⟨f0,-⟩:=right4 hr hk
 have HW0:=Hi (numW_ok (n:=4) (by decide) (by decide))
 have l0:=numB_small 4
 have HNM:=Hi (fun W=>num_any 4 W)
 rw [HW0.out] at HNM
 change Hid (∀ W,Calls Tryz.prog 73 #[.int .i64 4] W (Wrote 5 W (Wm.numB 4,0))) at HNM
 generalize Wm.numB 4=m0 at *
 have HCmn:=Hi (fun W=>put_any x.nt x.nr W)
 rw [putW_ok f0] at HCmn
 have lmn:=stB_len x.nt x.nr
 generalize stB x.nt x.nr=mn at *
 have HCmo:=Hi (fun W=>num_any ((digO x.on:Nat):Int) W)
 rw [numW_ok (n:=((digO x.on:Nat):Int)) (by omega) (by cases x.on <;> decide),Int.toNat_natCast] at HCmo
 have lmo:=numB_small (digO x.on)
 generalize Wm.numB (digO x.on)=mo at *
 have HK:=Hi hk
 have HRI:=Hi hr
 have HPA:=Hi ha
 have HS:=Hi hs
 obtain ⟨HX,HA,HB⟩:=right_start w x q c ha
 have hx:=HX.out
 clear hk hr ha hs
 go_enter Tryz.func74,Tryz.ntmps74
 go_wp2_with (refine wpList_load_op otP rfl _ rfl _ rfl _ _ _ (by assumption) ?_)
 refine (oright_any x q c _ HS.out HA.out).mono ?_
 rw [HRI.out]
 rintro e w1 ⟨rfl,hb1⟩
 have hxa:=HX.out.kept hb1
 have hb2:=(Below.refl w1.heap.size w1).alloc (Nat.le_refl _) (.cells #[.slice none 0 0] 103)
 have hbw1:=HB.out.trans (hb1.mono HB.out.size)
 have hlx:=hxa.lt
 have HX1:=Hi (hxa.kept hb2)
 have HB1:=Hi (hbw1.alloc hbw1.size (.cells #[.slice none 0 0] 103))
 have HO1:=Hi (show (w1.alloc (.cells #[.slice none 0 0] 103)).cell? ⟨w1.heap.size,0,none⟩=some (.slice none 0 0)∧(w1.alloc (.cells #[.slice none 0 0] 103)).frozen? ⟨w1.heap.size,0,none⟩=false from
  ⟨by rw [World.cell?_alloc_at _ _ _ _ rfl]; rfl,World.frozen?_alloc_at _ _ _ _ rfl⟩)
 clear hb1 hb2 hbw1 hxa hx
 obtain ⟨x0,-⟩:=HX1.out.cells
 rw [HK.out] at x0
 have HNA:=Hi (fun W=>named_any 4 W)
 go_wp2_with fail
 refine (HNA.out _).mono ?_
 rintro e w2 ⟨rfl,hb2⟩
 have hx2:=HX1.out.kept hb2
 have hb3:=(Below.refl w2.heap.size w2).alloc (Nat.le_refl _) (.cells #[.bool true,.bool false,.bool false,.bool false,.bool false,.bool true] 156)
 have hsz:w1.heap.size<w2.heap.size:=by have:=hb2.size; simp at this; omega
 have T:=Hi (show PuO w w.heap.size w1.heap.size w2.heap.size (w2.heap.size+1) ⟨true,false,false,false,false,true⟩ x q c [] (w2.alloc (.cells #[.bool true,.bool false,.bool false,.bool false,.bool false,.bool true] 156)) from
  {hX:=Nat.le_refl _,hXo:=hlx,hoP:=hsz,hPB:=Nat.lt_succ_self _,op:=hx2.kept hb3,pr:=PrAt.new w2 ⟨true,false,false,false,false,true⟩ 156,pa:=HPA.out,below:=(HB1.out.trans (hb2.mono HB1.out.size)).trans (hb3.mono (by have:=HB1.out.size; have:=hb2.size; omega)),
   out:=⟨by omega,by simp,by rw [hb3.frozen (by simpa using hsz),hb2.frozen (by simp)]; exact HO1.out.2,.slice none 0 0,by rw [hb3.cell (by simpa using hsz),hb2.cell (by simp)]; exact HO1.out.1,Own.nil _ _ _⟩ })
 have hpr:prA (prt 4)=#[.bool true,.bool false,.bool false,.bool false,.bool false,.bool true]:=rfl
 clear HX1 HB1 HO1 hb2 hb3 hx2 x0 HB HX HA
 obtain ⟨p0,p1,p2,p3,p4,p5⟩:=T.out.pr.cells
 obtain ⟨x0,x1,x2,x3,x4,x5,x6,x7,x8,x9,x10,x11⟩:=T.out.op.cells
 dsimp only at p0 p1 p2 p3 p4 p5
 rw [HK.out] at x0
 go_wp2_with fail
 refine (HNM.out _).mono ?_
 rintro e wa ⟨va,rfl,hown,hb⟩
 dsimp only at hown
 obtain ⟨pa,ka,rfl,hbs,-,-,hpn,-⟩:=hown.bs
 replace T:=Hi (T.out.kept hb)
 have HBS:=Hi hbs
 clear hown hbs hb p0 p1 p2 p3 p4 p5 x0 x1 x2 x3 x4 x5 x6 x7 x8 x9 x10 x11
 go_wp2_with fail
 refine (add_any _ _ _ _ pa ka _ _ T.out.out HBS.out hpn ?_).mono ?_
 ·simp; omega
 rintro e wb ⟨rfl,hout,hchg⟩
 replace T:=Hi (T.out.add hout hchg)
 clear hout hchg HBS hpn
 obtain ⟨p0,p1,p2,p3,p4,p5⟩:=T.out.pr.cells
 obtain ⟨x0,x1,x2,x3,x4,x5,x6,x7,x8,x9,x10,x11⟩:=T.out.op.cells
 dsimp only at p0 p1 p2 p3 p4 p5
 rw [HK.out] at x0
 go_wp2_with fail
 refine (HCmn.out _).mono ?_
 rintro e wa ⟨va,rfl,hown,hb⟩
 dsimp only at hown
 obtain ⟨pa,ka,rfl,hbs,-,-,hpn,-⟩:=hown.bs
 replace T:=Hi (T.out.kept hb)
 have HBS:=Hi hbs
 clear hown hbs hb p0 p1 p2 p3 p4 p5 x0 x1 x2 x3 x4 x5 x6 x7 x8 x9 x10 x11
 go_wp2_with fail
 refine (add_any _ _ _ _ pa ka _ _ T.out.out HBS.out hpn ?_).mono ?_
 ·simp; omega
 rintro e wb ⟨rfl,hout,hchg⟩
 replace T:=Hi (T.out.add hout hchg)
 clear hout hchg HBS hpn
 obtain ⟨p0,p1,p2,p3,p4,p5⟩:=T.out.pr.cells
 obtain ⟨x0,x1,x2,x3,x4,x5,x6,x7,x8,x9,x10,x11⟩:=T.out.op.cells
 dsimp only at p0 p1 p2 p3 p4 p5
 rw [HK.out] at x0
 go_wp2_with fail
 refine (digit_any x.on _).mono ?_
 rintro e wd ⟨rfl,rfl⟩
 go_wp2_with fail
 refine (HCmo.out _).mono ?_
 rintro e wa ⟨va,rfl,hown,hb⟩
 dsimp only at hown
 obtain ⟨pa,ka,rfl,hbs,-,-,hpn,-⟩:=hown.bs
 replace T:=Hi (T.out.kept hb)
 have HBS:=Hi hbs
 clear hown hbs hb p0 p1 p2 p3 p4 p5 x0 x1 x2 x3 x4 x5 x6 x7 x8 x9 x10 x11
 go_wp2_with fail
 refine (add_any _ _ _ _ pa ka _ _ T.out.out HBS.out hpn ?_).mono ?_
 ·simp; omega
 rintro e wb ⟨rfl,hout,hchg⟩
 replace T:=Hi (T.out.add hout hchg)
 clear hout hchg HBS hpn
 obtain ⟨p0,p1,p2,p3,p4,p5⟩:=T.out.pr.cells
 obtain ⟨x0,x1,x2,x3,x4,x5,x6,x7,x8,x9,x10,x11⟩:=T.out.op.cells
 dsimp only at p0 p1 p2 p3 p4 p5
 rw [HK.out] at x0
 obtain ⟨v,hv,hown⟩:=T.out.out.row
 obtain ⟨pz,kz,rfl,-⟩:=hown.bs
 have HOW:=Hi hown
 clear hown
 go_wp2
 go_ret2
 rw [HOB.out]
 exact ⟨_,rfl,by
  have h:=HOW.out.base (B':=w.heap.size) (by have h1:=T.out.hX; have h2:=T.out.hXo; have h3:=T.out.hoP; have h4:=T.out.hPB; omega)
  simpa [List.append_assoc] using h,T.out.below⟩
theorem put5_any (x:Opp) (q:Option Addr) (c:Nat) (w:World) (hs:Sz x) (ha:Pa w x q c) (hk:x.k=5) (hr:rightO x=true):Calls Tryz.prog 74 #[.agg (opA x q c)] w (Wrote 5 w (opB x,0)):=by
 have HOB:=Hi (show opB x=Wm.numB 5 ++ (stB x.nt x.nr ++ stB x.rt x.rr) from by unfold opB tailB; rw [hk,if_neg (by decide),if_neg (by decide),if_neg (by decide),if_neg (by decide),if_pos rfl]; rfl)
 obtain ⟨f0,f1,-⟩:=right5 hr hk
 have HW0:=Hi (numW_ok (n:=5) (by decide) (by decide))
 have l0:=numB_small 5
 have HNM:=Hi (fun W=>num_any 5 W)
 rw [HW0.out] at HNM
 change Hid (∀ W,Calls Tryz.prog 73 #[.int .i64 5] W (Wrote 5 W (Wm.numB 5,0))) at HNM
 generalize Wm.numB 5=m0 at *
 have HCmn:=Hi (fun W=>put_any x.nt x.nr W)
 rw [putW_ok f0] at HCmn
 have lmn:=stB_len x.nt x.nr
 generalize stB x.nt x.nr=mn at *
 have HCmr:=Hi (fun W=>put_any x.rt x.rr W)
 rw [putW_ok f1] at HCmr
 have lmr:=stB_len x.rt x.rr
 generalize stB x.rt x.rr=mr at *
 have HK:=Hi hk
 have HRI:=Hi hr
 have HPA:=Hi ha
 have HS:=Hi hs
 obtain ⟨HX,HA,HB⟩:=right_start w x q c ha
 have hx:=HX.out
 clear hk hr ha hs
 go_enter Tryz.func74,Tryz.ntmps74
 go_wp2_with (refine wpList_load_op otP rfl _ rfl _ rfl _ _ _ (by assumption) ?_)
 refine (oright_any x q c _ HS.out HA.out).mono ?_
 rw [HRI.out]
 rintro e w1 ⟨rfl,hb1⟩
 have hxa:=HX.out.kept hb1
 have hb2:=(Below.refl w1.heap.size w1).alloc (Nat.le_refl _) (.cells #[.slice none 0 0] 103)
 have hbw1:=HB.out.trans (hb1.mono HB.out.size)
 have hlx:=hxa.lt
 have HX1:=Hi (hxa.kept hb2)
 have HB1:=Hi (hbw1.alloc hbw1.size (.cells #[.slice none 0 0] 103))
 have HO1:=Hi (show (w1.alloc (.cells #[.slice none 0 0] 103)).cell? ⟨w1.heap.size,0,none⟩=some (.slice none 0 0)∧(w1.alloc (.cells #[.slice none 0 0] 103)).frozen? ⟨w1.heap.size,0,none⟩=false from
  ⟨by rw [World.cell?_alloc_at _ _ _ _ rfl]; rfl,World.frozen?_alloc_at _ _ _ _ rfl⟩)
 clear hb1 hb2 hbw1 hxa hx
 obtain ⟨x0,-⟩:=HX1.out.cells
 rw [HK.out] at x0
 have HNA:=Hi (fun W=>named_any 5 W)
 go_wp2_with fail
 refine (HNA.out _).mono ?_
 rintro e w2 ⟨rfl,hb2⟩
 have hx2:=HX1.out.kept hb2
 have hb3:=(Below.refl w2.heap.size w2).alloc (Nat.le_refl _) (.cells #[.bool true,.bool false,.bool true,.bool false,.bool false,.bool false] 156)
 have hsz:w1.heap.size<w2.heap.size:=by have:=hb2.size; simp at this; omega
 have T:=Hi (show PuO w w.heap.size w1.heap.size w2.heap.size (w2.heap.size+1) ⟨true,false,true,false,false,false⟩ x q c [] (w2.alloc (.cells #[.bool true,.bool false,.bool true,.bool false,.bool false,.bool false] 156)) from
  {hX:=Nat.le_refl _,hXo:=hlx,hoP:=hsz,hPB:=Nat.lt_succ_self _,op:=hx2.kept hb3,pr:=PrAt.new w2 ⟨true,false,true,false,false,false⟩ 156,pa:=HPA.out,below:=(HB1.out.trans (hb2.mono HB1.out.size)).trans (hb3.mono (by have:=HB1.out.size; have:=hb2.size; omega)),
   out:=⟨by omega,by simp,by rw [hb3.frozen (by simpa using hsz),hb2.frozen (by simp)]; exact HO1.out.2,.slice none 0 0,by rw [hb3.cell (by simpa using hsz),hb2.cell (by simp)]; exact HO1.out.1,Own.nil _ _ _⟩ })
 have hpr:prA (prt 5)=#[.bool true,.bool false,.bool true,.bool false,.bool false,.bool false]:=rfl
 clear HX1 HB1 HO1 hb2 hb3 hx2 x0 HB HX HA
 obtain ⟨p0,p1,p2,p3,p4,p5⟩:=T.out.pr.cells
 obtain ⟨x0,x1,x2,x3,x4,x5,x6,x7,x8,x9,x10,x11⟩:=T.out.op.cells
 dsimp only at p0 p1 p2 p3 p4 p5
 rw [HK.out] at x0
 go_wp2_with fail
 refine (HNM.out _).mono ?_
 rintro e wa ⟨va,rfl,hown,hb⟩
 dsimp only at hown
 obtain ⟨pa,ka,rfl,hbs,-,-,hpn,-⟩:=hown.bs
 replace T:=Hi (T.out.kept hb)
 have HBS:=Hi hbs
 clear hown hbs hb p0 p1 p2 p3 p4 p5 x0 x1 x2 x3 x4 x5 x6 x7 x8 x9 x10 x11
 go_wp2_with fail
 refine (add_any _ _ _ _ pa ka _ _ T.out.out HBS.out hpn ?_).mono ?_
 ·simp; omega
 rintro e wb ⟨rfl,hout,hchg⟩
 replace T:=Hi (T.out.add hout hchg)
 clear hout hchg HBS hpn
 obtain ⟨p0,p1,p2,p3,p4,p5⟩:=T.out.pr.cells
 obtain ⟨x0,x1,x2,x3,x4,x5,x6,x7,x8,x9,x10,x11⟩:=T.out.op.cells
 dsimp only at p0 p1 p2 p3 p4 p5
 rw [HK.out] at x0
 go_wp2_with fail
 refine (HCmn.out _).mono ?_
 rintro e wa ⟨va,rfl,hown,hb⟩
 dsimp only at hown
 obtain ⟨pa,ka,rfl,hbs,-,-,hpn,-⟩:=hown.bs
 replace T:=Hi (T.out.kept hb)
 have HBS:=Hi hbs
 clear hown hbs hb p0 p1 p2 p3 p4 p5 x0 x1 x2 x3 x4 x5 x6 x7 x8 x9 x10 x11
 go_wp2_with fail
 refine (add_any _ _ _ _ pa ka _ _ T.out.out HBS.out hpn ?_).mono ?_
 ·simp; omega
 rintro e wb ⟨rfl,hout,hchg⟩
 replace T:=Hi (T.out.add hout hchg)
 clear hout hchg HBS hpn
 obtain ⟨p0,p1,p2,p3,p4,p5⟩:=T.out.pr.cells
 obtain ⟨x0,x1,x2,x3,x4,x5,x6,x7,x8,x9,x10,x11⟩:=T.out.op.cells
 dsimp only at p0 p1 p2 p3 p4 p5
 rw [HK.out] at x0
 go_wp2_with fail
 refine (HCmr.out _).mono ?_
 rintro e wa ⟨va,rfl,hown,hb⟩
 dsimp only at hown
 obtain ⟨pa,ka,rfl,hbs,-,-,hpn,-⟩:=hown.bs
 replace T:=Hi (T.out.kept hb)
 have HBS:=Hi hbs
 clear hown hbs hb p0 p1 p2 p3 p4 p5 x0 x1 x2 x3 x4 x5 x6 x7 x8 x9 x10 x11
 go_wp2_with fail
 refine (add_any _ _ _ _ pa ka _ _ T.out.out HBS.out hpn ?_).mono ?_
 ·simp; omega
 rintro e wb ⟨rfl,hout,hchg⟩
 replace T:=Hi (T.out.add hout hchg)
 clear hout hchg HBS hpn
 obtain ⟨p0,p1,p2,p3,p4,p5⟩:=T.out.pr.cells
 obtain ⟨x0,x1,x2,x3,x4,x5,x6,x7,x8,x9,x10,x11⟩:=T.out.op.cells
 dsimp only at p0 p1 p2 p3 p4 p5
 rw [HK.out] at x0
 obtain ⟨v,hv,hown⟩:=T.out.out.row
 obtain ⟨pz,kz,rfl,-⟩:=hown.bs
 have HOW:=Hi hown
 clear hown
 go_wp2
 go_ret2
 rw [HOB.out]
 exact ⟨_,rfl,by
  have h:=HOW.out.base (B':=w.heap.size) (by have h1:=T.out.hX; have h2:=T.out.hXo; have h3:=T.out.hoP; have h4:=T.out.hPB; omega)
  simpa [List.append_assoc] using h,T.out.below⟩
theorem put6_any (x:Opp) (q:Option Addr) (c:Nat) (w:World) (hs:Sz x) (ha:Pa w x q c) (hk:x.k=6) (hr:rightO x=true):Calls Tryz.prog 74 #[.agg (opA x q c)] w (Wrote 5 w (opB x,0)):=by
 have HOB:=Hi (show opB x=Wm.numB 6 ++ (stB x.nt x.nr ++ Wm.numB x.path.length ++ paB x.path ++ Wm.numB x.p.toNat ++ vlB x.vk x.vn x.vt) from by unfold opB tailB; rw [hk,if_neg (by decide),if_neg (by decide),if_neg (by decide),if_neg (by decide),if_neg (by decide)]; rfl)
 obtain ⟨f0,f4,f3,-⟩:=right6 hr hk
 have HW0:=Hi (numW_ok (n:=6) (by decide) (by decide))
 have l0:=numB_small 6
 have HNM:=Hi (fun W=>num_any 6 W)
 rw [HW0.out] at HNM
 change Hid (∀ W,Calls Tryz.prog 73 #[.int .i64 6] W (Wrote 5 W (Wm.numB 6,0))) at HNM
 generalize Wm.numB 6=m0 at *
 have HCmn:=Hi (fun W=>put_any x.nt x.nr W)
 rw [putW_ok f0] at HCmn
 have lmn:=stB_len x.nt x.nr
 generalize stB x.nt x.nr=mn at *
 obtain ⟨l1,l8,ls⟩:=okPath_small f4
 have HCml:=Hi (fun W=>num_any (x.path.length:Int) W)
 rw [numW_ok (n:=(x.path.length:Int)) (by omega) (by omega),Int.toNat_natCast] at HCml
 have lml:=numB_small x.path.length
 generalize Wm.numB x.path.length=ml at *
 obtain ⟨g1,g8,f5⟩:=right8_facts f3
 have HCmp:=Hi (fun W=>num_any x.p W)
 rw [numW_ok (n:=x.p) (by omega) (by omega)] at HCmp
 have lmp:=numB_small x.p.toNat
 generalize Wm.numB x.p.toNat=mp at *
 have HCmv:=Hi (fun W=>vput_any x.vk x.vn x.vt W hs.val)
 rw [putV_ok f5] at HCmv
 have lmv:=vlB_len f5
 generalize vlB x.vk x.vn x.vt=mv at *
 have HK:=Hi hk
 have HRI:=Hi hr
 have HPA:=Hi ha
 have HS:=Hi hs
 obtain ⟨HX,HA,HB⟩:=right_start w x q c ha
 have hx:=HX.out
 clear hk hr ha hs
 go_enter Tryz.func74,Tryz.ntmps74
 go_wp2_with (refine wpList_load_op otP rfl _ rfl _ rfl _ _ _ (by assumption) ?_)
 refine (oright_any x q c _ HS.out HA.out).mono ?_
 rw [HRI.out]
 rintro e w1 ⟨rfl,hb1⟩
 have hxa:=HX.out.kept hb1
 have hb2:=(Below.refl w1.heap.size w1).alloc (Nat.le_refl _) (.cells #[.slice none 0 0] 103)
 have hbw1:=HB.out.trans (hb1.mono HB.out.size)
 have hlx:=hxa.lt
 have HX1:=Hi (hxa.kept hb2)
 have HB1:=Hi (hbw1.alloc hbw1.size (.cells #[.slice none 0 0] 103))
 have HO1:=Hi (show (w1.alloc (.cells #[.slice none 0 0] 103)).cell? ⟨w1.heap.size,0,none⟩=some (.slice none 0 0)∧(w1.alloc (.cells #[.slice none 0 0] 103)).frozen? ⟨w1.heap.size,0,none⟩=false from
  ⟨by rw [World.cell?_alloc_at _ _ _ _ rfl]; rfl,World.frozen?_alloc_at _ _ _ _ rfl⟩)
 clear hb1 hb2 hbw1 hxa hx
 obtain ⟨x0,-⟩:=HX1.out.cells
 rw [HK.out] at x0
 have HNA:=Hi (fun W=>named_any 6 W)
 go_wp2_with fail
 refine (HNA.out _).mono ?_
 rintro e w2 ⟨rfl,hb2⟩
 have hx2:=HX1.out.kept hb2
 have hb3:=(Below.refl w2.heap.size w2).alloc (Nat.le_refl _) (.cells #[.bool true,.bool false,.bool false,.bool true,.bool true,.bool false] 156)
 have hsz:w1.heap.size<w2.heap.size:=by have:=hb2.size; simp at this; omega
 have T:=Hi (show PuO w w.heap.size w1.heap.size w2.heap.size (w2.heap.size+1) ⟨true,false,false,true,true,false⟩ x q c [] (w2.alloc (.cells #[.bool true,.bool false,.bool false,.bool true,.bool true,.bool false] 156)) from
  {hX:=Nat.le_refl _,hXo:=hlx,hoP:=hsz,hPB:=Nat.lt_succ_self _,op:=hx2.kept hb3,pr:=PrAt.new w2 ⟨true,false,false,true,true,false⟩ 156,pa:=HPA.out,below:=(HB1.out.trans (hb2.mono HB1.out.size)).trans (hb3.mono (by have:=HB1.out.size; have:=hb2.size; omega)),
   out:=⟨by omega,by simp,by rw [hb3.frozen (by simpa using hsz),hb2.frozen (by simp)]; exact HO1.out.2,.slice none 0 0,by rw [hb3.cell (by simpa using hsz),hb2.cell (by simp)]; exact HO1.out.1,Own.nil _ _ _⟩ })
 have hpr:prA (prt 6)=#[.bool true,.bool false,.bool false,.bool true,.bool true,.bool false]:=rfl
 clear HX1 HB1 HO1 hb2 hb3 hx2 x0 HB HX HA
 obtain ⟨p0,p1,p2,p3,p4,p5⟩:=T.out.pr.cells
 obtain ⟨x0,x1,x2,x3,x4,x5,x6,x7,x8,x9,x10,x11⟩:=T.out.op.cells
 dsimp only at p0 p1 p2 p3 p4 p5
 rw [HK.out] at x0
 go_wp2_with fail
 refine (HNM.out _).mono ?_
 rintro e wa ⟨va,rfl,hown,hb⟩
 dsimp only at hown
 obtain ⟨pa,ka,rfl,hbs,-,-,hpn,-⟩:=hown.bs
 replace T:=Hi (T.out.kept hb)
 have HBS:=Hi hbs
 clear hown hbs hb p0 p1 p2 p3 p4 p5 x0 x1 x2 x3 x4 x5 x6 x7 x8 x9 x10 x11
 go_wp2_with fail
 refine (add_any _ _ _ _ pa ka _ _ T.out.out HBS.out hpn ?_).mono ?_
 ·simp; omega
 rintro e wb ⟨rfl,hout,hchg⟩
 replace T:=Hi (T.out.add hout hchg)
 clear hout hchg HBS hpn
 obtain ⟨p0,p1,p2,p3,p4,p5⟩:=T.out.pr.cells
 obtain ⟨x0,x1,x2,x3,x4,x5,x6,x7,x8,x9,x10,x11⟩:=T.out.op.cells
 dsimp only at p0 p1 p2 p3 p4 p5
 rw [HK.out] at x0
 go_wp2_with fail
 refine (HCmn.out _).mono ?_
 rintro e wa ⟨va,rfl,hown,hb⟩
 dsimp only at hown
 obtain ⟨pa,ka,rfl,hbs,-,-,hpn,-⟩:=hown.bs
 replace T:=Hi (T.out.kept hb)
 have HBS:=Hi hbs
 clear hown hbs hb p0 p1 p2 p3 p4 p5 x0 x1 x2 x3 x4 x5 x6 x7 x8 x9 x10 x11
 go_wp2_with fail
 refine (add_any _ _ _ _ pa ka _ _ T.out.out HBS.out hpn ?_).mono ?_
 ·simp; omega
 rintro e wb ⟨rfl,hout,hchg⟩
 replace T:=Hi (T.out.add hout hchg)
 clear hout hchg HBS hpn
 obtain ⟨p0,p1,p2,p3,p4,p5⟩:=T.out.pr.cells
 obtain ⟨x0,x1,x2,x3,x4,x5,x6,x7,x8,x9,x10,x11⟩:=T.out.op.cells
 dsimp only at p0 p1 p2 p3 p4 p5
 rw [HK.out] at x0
 go_wp2_with fail
 refine (HCml.out _).mono ?_
 rintro e wa ⟨va,rfl,hown,hb⟩
 dsimp only at hown
 obtain ⟨pa,ka,rfl,hbs,-,-,hpn,-⟩:=hown.bs
 replace T:=Hi (T.out.kept hb)
 have HBS:=Hi hbs
 clear hown hbs hb p0 p1 p2 p3 p4 p5 x0 x1 x2 x3 x4 x5 x6 x7 x8 x9 x10 x11
 go_wp2_with fail
 refine (add_any _ _ _ _ pa ka _ _ T.out.out HBS.out hpn ?_).mono ?_
 ·simp; omega
 rintro e wb ⟨rfl,hout,hchg⟩
 replace T:=Hi (T.out.add hout hchg)
 clear hout hchg HBS hpn
 obtain ⟨p0,p1,p2,p3,p4,p5⟩:=T.out.pr.cells
 obtain ⟨x0,x1,x2,x3,x4,x5,x6,x7,x8,x9,x10,x11⟩:=T.out.op.cells
 dsimp only at p0 p1 p2 p3 p4 p5
 rw [HK.out] at x0
 have HLS:=Hi ls
 obtain ⟨bq,oq,rfl,hbq⟩:=HPA.out.rd.addr (by rw [stCells_length]; omega)
 generalize hpre:[] ++ m0 ++ mn ++ ml=pre at *
 have hprel:pre.length≤40:=by rw [← hpre]; simp only [List.length_append,List.length_nil]; omega
 have HPRE:=Hi hpre
 clear hpre
 go_wp2
 go_loopw [67] (fun i wr=>∃ k:Nat,k≤x.path.length∧i=.int .i64 (k:Int)∧PuO w w.heap.size w1.heap.size w2.heap.size (w2.heap.size+1) ⟨true,false,false,true,true,false⟩ x (some ⟨bq,oq,none⟩) c (pre ++ paB (x.path.take k)) wr) (fun i _=>x.path.length - (intOf i).toNat)
 case atStart=>exact ⟨0,Nat.zero_le _,rfl,by simpa [paB] using T.out⟩
 case round =>
  clear T p0 p1 p2 p3 p4 p5 x0 x1 x2 x3 x4 x5 x6 x7 x8 x9 x10 x11
  obtain ⟨k,hk,rfl,ht⟩:=hrel
  have T:=Hi ht
  clear ht
  by_cases hlt:k<x.path.length
  ·obtain ⟨c0,c1⟩:=T.out.paw.rd.st k hlt
   have HTK:=Hi (paB_take hlt)
   have HPT:=Hi (fun W=>put_any (Qm.stOf x.path k).1 (Qm.stOf x.path k).2 W)
   rw [putW_ok (HLS.out _ (stOf_mem hlt))] at HPT
   have lst:=stB_len (Qm.stOf x.path k).1 (Qm.stOf x.path k).2
   have lpa:=paB_len (x.path.take k)
   have ltk:(x.path.take k).length≤8:=by rw [List.length_take]; omega
   generalize stB (Qm.stOf x.path k).1 (Qm.stOf x.path k).2=ms at *
   generalize (Qm.stOf x.path k).1=st at *
   generalize (Qm.stOf x.path k).2=sr at *
   have hbs:=(Below.refl wr.heap.size wr).alloc (Nat.le_refl _) (.cells #[.int .i64 st,.int .i64 sr] 50)
   replace T:=Hi (T.out.kept hbs)
   have z0:=(TwoAt.start wr st sr).cell0
   have z1:=(TwoAt.start wr st sr).cell1
   clear hbs
   go_wp2_with fail
   refine (HPT.out _).mono ?_
   rintro e wa ⟨va,rfl,hown,hb⟩
   dsimp only at hown
   obtain ⟨pa,ka,rfl,hbs,-,-,hpn,-⟩:=hown.bs
   replace T:=Hi (T.out.kept hb)
   have HBS:=Hi hbs
   clear hown hbs hb c0 c1 z0 z1
   go_wp2_with fail
   refine (add_any _ _ _ _ pa ka _ _ T.out.out HBS.out hpn ?_).mono ?_
   ·simp only [List.length_append]; omega
   rintro e wb ⟨rfl,hout,hchg⟩
   replace T:=Hi (T.out.add hout hchg)
   clear hout hchg HBS hpn
   go_wp2
   go_roundw
   case rel=>exact ⟨k+1,by omega,by go_num,by rw [HTK.out,← List.append_assoc]; exact T.out⟩
   case measure=>simp [intOf]; omega
  ·obtain rfl:k=x.path.length:=by omega
   have HTP:=Hi (List.take_length (l:=x.path))
   rw [HTP.out] at T
   have lpp:=paB_len x.path
   generalize paB x.path=mpp at *
   obtain ⟨p0,p1,p2,p3,p4,p5⟩:=T.out.pr.cells
   obtain ⟨x0,x1,x2,x3,x4,x5,x6,x7,x8,x9,x10,x11⟩:=T.out.op.cells
   dsimp only at p0 p1 p2 p3 p4 p5
   rw [HK.out] at x0
   go_wp2_with fail
   refine (HCmp.out _).mono ?_
   rintro e wa ⟨va,rfl,hown,hb⟩
   dsimp only at hown
   obtain ⟨pa,ka,rfl,hbs,-,-,hpn,-⟩:=hown.bs
   replace T:=Hi (T.out.kept hb)
   have HBS:=Hi hbs
   clear hown hbs hb p0 p1 p2 p3 p4 p5 x0 x1 x2 x3 x4 x5 x6 x7 x8 x9 x10 x11
   go_wp2_with fail
   refine (add_any _ _ _ _ pa ka _ _ T.out.out HBS.out hpn ?_).mono ?_
   ·simp; omega
   rintro e wb ⟨rfl,hout,hchg⟩
   replace T:=Hi (T.out.add hout hchg)
   clear hout hchg HBS hpn
   obtain ⟨p0,p1,p2,p3,p4,p5⟩:=T.out.pr.cells
   obtain ⟨x0,x1,x2,x3,x4,x5,x6,x7,x8,x9,x10,x11⟩:=T.out.op.cells
   dsimp only at p0 p1 p2 p3 p4 p5
   rw [HK.out] at x0
   go_wp2_with fail
   refine (HCmv.out _).mono ?_
   rintro e wa ⟨va,rfl,hown,hb⟩
   dsimp only at hown
   obtain ⟨pa,ka,rfl,hbs,-,-,hpn,-⟩:=hown.bs
   replace T:=Hi (T.out.kept hb)
   have HBS:=Hi hbs
   clear hown hbs hb p0 p1 p2 p3 p4 p5 x0 x1 x2 x3 x4 x5 x6 x7 x8 x9 x10 x11
   go_wp2_with fail
   refine (add_any _ _ _ _ pa ka _ _ T.out.out HBS.out hpn ?_).mono ?_
   ·simp; omega
   rintro e wb ⟨rfl,hout,hchg⟩
   replace T:=Hi (T.out.add hout hchg)
   clear hout hchg HBS hpn
   obtain ⟨p0,p1,p2,p3,p4,p5⟩:=T.out.pr.cells
   obtain ⟨x0,x1,x2,x3,x4,x5,x6,x7,x8,x9,x10,x11⟩:=T.out.op.cells
   dsimp only at p0 p1 p2 p3 p4 p5
   rw [HK.out] at x0
   obtain ⟨v,hv,hown⟩:=T.out.out.row
   obtain ⟨pz,kz,rfl,-⟩:=hown.bs
   have HOW:=Hi hown
   clear hown
   go_wp2
   go_ret2
   rw [HOB.out]
   exact ⟨_,rfl,by
    have h:=HOW.out.base (B':=w.heap.size) (by have h1:=T.out.hX; have h2:=T.out.hXo; have h3:=T.out.hoP; have h4:=T.out.hPB; omega)
    rw [show (m0 ++ (mn ++ ml ++ mpp ++ mp ++ mv),0).1=pre ++ mpp ++ mp ++ mv from by rw [← HPRE.out]; simp [List.append_assoc]]
    simpa [List.append_assoc] using h,T.out.below⟩
theorem putO_err {x:Opp} (h:rightO x=false):putO x=([],1):=by unfold putO; rw [if_neg (by simp [h])]
theorem putO_ok {x:Opp} (h:rightO x=true):putO x=(opB x,0):=by unfold putO; rw [if_pos h]
theorem oput_any (x:Opp) (q:Option Addr) (c:Nat) (w:World) (hs:Sz x) (ha:Pa w x q c):Calls Tryz.prog 74 #[.agg (opA x q c)] w (Wrote 5 w (putO x)):=by
 cases hr:rightO x with
 | true =>
  rw [putO_ok hr]
  obtain ⟨k1,k6⟩:=rightO_kind hr
  have hc:x.k=1∨x.k=2∨x.k=3∨x.k=4∨x.k=5∨x.k=6:=by omega
  rcases hc with hk | hk | hk | hk | hk | hk
  ·exact put1_any x q c w hs ha hk hr
  ·exact put2_any x q c w hs ha hk hr
  ·exact put3_any x q c w hs ha hk hr
  ·exact put4_any x q c w hs ha hk hr
  ·exact put5_any x q c w hs ha hk hr
  ·exact put6_any x q c w hs ha hk hr
 | false =>
  rw [putO_err hr]
  have HRI:=Hi hr
  have HS:=Hi hs
  obtain ⟨HX,HA,HB⟩:=right_start w x q c ha
  have hx:=HX.out
  clear hr ha hs
  go_enter Tryz.func74,Tryz.ntmps74
  go_wp2_with (refine wpList_load_op otP rfl _ rfl _ rfl _ _ _ (by assumption) ?_)
  refine (oright_any x q c _ HS.out HA.out).mono ?_
  rw [HRI.out]
  rintro e w1 ⟨rfl,hb1⟩
  have HB1:=Hi (HB.out.trans (hb1.mono HB.out.size))
  clear hb1 hx
  go_wp2
  go_ret2
  exact ⟨_,rfl,Own.nil _ _ _,HB1.out⟩
end Go.Proofs.YtfgnmnkihbgjnaaGreat
