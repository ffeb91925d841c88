/-
  Right: may an op be.
  No conditions but sizes.
  May a batch be: allRight, Right.
  No conditions but sizes.
  READING, whatever the reader's error is: numbers, stamps, texts, values, the Path, On.
  No conditions but sizes.
  READING, whatever the reader's error is: values, On, the Path.
  No conditions but sizes.
  READING a Path: as many stamps as its count says, until an error.
  Conditions: at most 10^12 bytes are left, or the count is at most 10^12.
  THE LAW's HELPERS: Own (an op of the program's, its Path copied), long.
  No conditions but sizes.
-/
import Derived.Test.YthfhefdfehlbkaaGreatSh
import Derived.Test.YthfhefdfehlbkaaGreatK04
import Derived.Test.YthfhefdfehlbkaaGreatK03
import Derived.Test.YthfhefdfehlbkaaGreatK02
set_option maxRecDepth 100000
set_option maxHeartbeats 4000000
namespace Go.Proofs.YthfhefdfehlbkaaGreat
open Go.RowKit
theorem right_start (w:World) (x:Opp) (q:Option Addr) (c:Nat) (ha:Pa w x q c):Hid (OpAt (w.alloc (.cells (opA x q c) 43)) w.heap.size x q c)∧Hid (Pa (w.alloc (.cells (opA x q c) 43)) x q c)∧Hid (Below w.heap.size w (w.alloc (.cells (opA x q c) 43))) :=
 ⟨OpAt.new w x q c _,ha.kept ((Below.refl _ _).alloc (Nat.le_refl _) _),(Below.refl _ _).alloc (Nat.le_refl _) _⟩
theorem rightO_none {x:Opp} (h1:x.k≠1) (h2:x.k≠2) (h3:x.k≠3) (h4:x.k≠4) (h5:x.k≠5) (h6:x.k≠6):rightO x=false:=by
 unfold rightO
 rw [decide_eq_false (by omega)]
 rfl
theorem rightO_of {x:Opp} {k:Int} (h:x.k=k) (h1:1≤k) (h6:k≤6):rightO x=(fitO (prt k) x && aloneO (prt k) x):=by
 subst h
 unfold rightO
 rw [decide_eq_true ⟨h1,h6⟩]
 rfl
theorem right1_any (x:Opp) (q:Option Addr) (c:Nat) (w:World) (hs:Sz x) (ha:Pa w x q c) (hk:x.k=1):Calls Tryz.prog 84 #[.agg (opA x q c)] w fun e w'=>e=.returned (.bool (rightO x))∧Below w.heap.size w w':=by
 obtain ⟨HX,HA,HB⟩:=right_start w x q c ha
 have HR:=Hi (rightO_of (x:=x) hk (by decide) (by decide))
 have HK:=Hi hk
 have HNA:=Hi (fun W=>named_any x.k W)
 rw [hk] at HNA
 obtain ⟨x0,-⟩:=HX.out.cells
 rw [hk] at x0
 clear hk
 cases hf:fitO ⟨false,true,false,false,false,false⟩ x with
 | false =>
  have HV:=Hi (show (fitO (prt 1) x && aloneO (prt 1) x)=false by rw [show fitO (prt 1) x=false from hf]; rfl)
  have HF:=Hi hf
  clear hf
  go_enter Tryz.func84,Tryz.ntmps84
  go_wp2_with fail
  refine (HNA.out _).mono ?_
  rintro e w1 ⟨rfl,hb1⟩
  replace HX:=Hi ((HX.out.kept hb1).kept ((Below.refl _ _).alloc (Nat.le_refl _) (.cells #[.bool false,.bool true,.bool false,.bool false,.bool false,.bool false] 244)))
  replace HA:=Hi ((HA.out.kept hb1).kept ((Below.refl _ _).alloc (Nat.le_refl _) (.cells #[.bool false,.bool true,.bool false,.bool false,.bool false,.bool false] 244)))
  replace HB:=Hi (HB.out.trans (hb1.mono HB.out.size))
  replace HB:=Hi (HB.out.alloc HB.out.size (.cells #[.bool false,.bool true,.bool false,.bool false,.bool false,.bool false] 244))
  have HP:=Hi (show PrAt (w1.alloc (.cells #[.bool false,.bool true,.bool false,.bool false,.bool false,.bool false] 244)) w1.heap.size ⟨false,true,false,false,false,false⟩ from PrAt.new w1 ⟨false,true,false,false,false,false⟩ 244)
  have hpr:prA (prt 1)=#[.bool false,.bool true,.bool false,.bool false,.bool false,.bool false]:=rfl
  clear hb1 x0
  have hx:=HX.out
  go_wp2_with (refine wpList_load_opG otP (by kernel_rfl) _ rfl _ rfl _ _ _ (by assumption) ?_)
  refine (fit1_any x q c _ hs HA.out).mono ?_
  rw [HF.out]
  rintro e w1 ⟨rfl,hb1⟩
  replace HB:=Hi (HB.out.trans (hb1.mono HB.out.size))
  replace HX:=Hi (HX.out.kept hb1)
  replace HA:=Hi (HA.out.kept hb1)
  replace HP:=Hi (HP.out.kept hb1)
  clear hb1 hx
  have hx:=HX.out
  obtain ⟨p0,p1,p2,p3,p4,p5⟩:=HP.out.cells
  dsimp only at p0 p1 p2 p3 p4 p5
  go_wp2
  go_ret
  exact ⟨ret_b (HR.out.trans HV.out).symm,HB.out⟩
 | true =>
  have HV:=Hi (show (fitO (prt 1) x && aloneO (prt 1) x)=aloneO ⟨false,true,false,false,false,false⟩ x by rw [show fitO (prt 1) x=true from hf]; rfl)
  have HF:=Hi hf
  clear hf
  go_enter Tryz.func84,Tryz.ntmps84
  go_wp2_with fail
  refine (HNA.out _).mono ?_
  rintro e w1 ⟨rfl,hb1⟩
  replace HX:=Hi ((HX.out.kept hb1).kept ((Below.refl _ _).alloc (Nat.le_refl _) (.cells #[.bool false,.bool true,.bool false,.bool false,.bool false,.bool false] 244)))
  replace HA:=Hi ((HA.out.kept hb1).kept ((Below.refl _ _).alloc (Nat.le_refl _) (.cells #[.bool false,.bool true,.bool false,.bool false,.bool false,.bool false] 244)))
  replace HB:=Hi (HB.out.trans (hb1.mono HB.out.size))
  replace HB:=Hi (HB.out.alloc HB.out.size (.cells #[.bool false,.bool true,.bool false,.bool false,.bool false,.bool false] 244))
  have HP:=Hi (show PrAt (w1.alloc (.cells #[.bool false,.bool true,.bool false,.bool false,.bool false,.bool false] 244)) w1.heap.size ⟨false,true,false,false,false,false⟩ from PrAt.new w1 ⟨false,true,false,false,false,false⟩ 244)
  have hpr:prA (prt 1)=#[.bool false,.bool true,.bool false,.bool false,.bool false,.bool false]:=rfl
  clear hb1 x0
  have hx:=HX.out
  go_wp2_with (refine wpList_load_opG otP (by kernel_rfl) _ rfl _ rfl _ _ _ (by assumption) ?_)
  refine (fit1_any x q c _ hs HA.out).mono ?_
  rw [HF.out]
  rintro e w1 ⟨rfl,hb1⟩
  replace HB:=Hi (HB.out.trans (hb1.mono HB.out.size))
  replace HX:=Hi (HX.out.kept hb1)
  replace HA:=Hi (HA.out.kept hb1)
  replace HP:=Hi (HP.out.kept hb1)
  clear hb1 hx
  have hx:=HX.out
  obtain ⟨p0,p1,p2,p3,p4,p5⟩:=HP.out.cells
  dsimp only at p0 p1 p2 p3 p4 p5
  go_wp2_with (refine wpList_load_opG otP (by kernel_rfl) _ rfl _ rfl _ _ _ (by assumption) ?_)
  refine (alone1_any x q c _ HA.out).mono ?_
  rintro e w1 ⟨rfl,hb1⟩
  replace HB:=Hi (HB.out.trans (hb1.mono HB.out.size))
  replace HX:=Hi (HX.out.kept hb1)
  replace HA:=Hi (HA.out.kept hb1)
  replace HP:=Hi (HP.out.kept hb1)
  clear hb1 hx
  have hx:=HX.out
  obtain ⟨p0,p1,p2,p3,p4,p5⟩:=HP.out.cells
  dsimp only at p0 p1 p2 p3 p4 p5
  go_wp2
  go_ret
  exact ⟨ret_b (HR.out.trans HV.out).symm,HB.out⟩
theorem right2_any (x:Opp) (q:Option Addr) (c:Nat) (w:World) (hs:Sz x) (ha:Pa w x q c) (hk:x.k=2):Calls Tryz.prog 84 #[.agg (opA x q c)] w fun e w'=>e=.returned (.bool (rightO x))∧Below w.heap.size w w':=by
 obtain ⟨HX,HA,HB⟩:=right_start w x q c ha
 have HR:=Hi (rightO_of (x:=x) hk (by decide) (by decide))
 have HK:=Hi hk
 have HNA:=Hi (fun W=>named_any x.k W)
 rw [hk] at HNA
 obtain ⟨x0,-⟩:=HX.out.cells
 rw [hk] at x0
 clear hk
 cases hf:fitO ⟨true,true,false,false,false,false⟩ x with
 | false =>
  have HV:=Hi (show (fitO (prt 2) x && aloneO (prt 2) x)=false by rw [show fitO (prt 2) x=false from hf]; rfl)
  have HF:=Hi hf
  clear hf
  go_enter Tryz.func84,Tryz.ntmps84
  go_wp2_with fail
  refine (HNA.out _).mono ?_
  rintro e w1 ⟨rfl,hb1⟩
  replace HX:=Hi ((HX.out.kept hb1).kept ((Below.refl _ _).alloc (Nat.le_refl _) (.cells #[.bool true,.bool true,.bool false,.bool false,.bool false,.bool false] 244)))
  replace HA:=Hi ((HA.out.kept hb1).kept ((Below.refl _ _).alloc (Nat.le_refl _) (.cells #[.bool true,.bool true,.bool false,.bool false,.bool false,.bool false] 244)))
  replace HB:=Hi (HB.out.trans (hb1.mono HB.out.size))
  replace HB:=Hi (HB.out.alloc HB.out.size (.cells #[.bool true,.bool true,.bool false,.bool false,.bool false,.bool false] 244))
  have HP:=Hi (show PrAt (w1.alloc (.cells #[.bool true,.bool true,.bool false,.bool false,.bool false,.bool false] 244)) w1.heap.size ⟨true,true,false,false,false,false⟩ from PrAt.new w1 ⟨true,true,false,false,false,false⟩ 244)
  have hpr:prA (prt 2)=#[.bool true,.bool true,.bool false,.bool false,.bool false,.bool false]:=rfl
  clear hb1 x0
  have hx:=HX.out
  go_wp2_with (refine wpList_load_opG otP (by kernel_rfl) _ rfl _ rfl _ _ _ (by assumption) ?_)
  refine (fit2_any x q c _ hs HA.out).mono ?_
  rw [HF.out]
  rintro e w1 ⟨rfl,hb1⟩
  replace HB:=Hi (HB.out.trans (hb1.mono HB.out.size))
  replace HX:=Hi (HX.out.kept hb1)
  replace HA:=Hi (HA.out.kept hb1)
  replace HP:=Hi (HP.out.kept hb1)
  clear hb1 hx
  have hx:=HX.out
  obtain ⟨p0,p1,p2,p3,p4,p5⟩:=HP.out.cells
  dsimp only at p0 p1 p2 p3 p4 p5
  go_wp2
  go_ret
  exact ⟨ret_b (HR.out.trans HV.out).symm,HB.out⟩
 | true =>
  have HV:=Hi (show (fitO (prt 2) x && aloneO (prt 2) x)=aloneO ⟨true,true,false,false,false,false⟩ x by rw [show fitO (prt 2) x=true from hf]; rfl)
  have HF:=Hi hf
  clear hf
  go_enter Tryz.func84,Tryz.ntmps84
  go_wp2_with fail
  refine (HNA.out _).mono ?_
  rintro e w1 ⟨rfl,hb1⟩
  replace HX:=Hi ((HX.out.kept hb1).kept ((Below.refl _ _).alloc (Nat.le_refl _) (.cells #[.bool true,.bool true,.bool false,.bool false,.bool false,.bool false] 244)))
  replace HA:=Hi ((HA.out.kept hb1).kept ((Below.refl _ _).alloc (Nat.le_refl _) (.cells #[.bool true,.bool true,.bool false,.bool false,.bool false,.bool false] 244)))
  replace HB:=Hi (HB.out.trans (hb1.mono HB.out.size))
  replace HB:=Hi (HB.out.alloc HB.out.size (.cells #[.bool true,.bool true,.bool false,.bool false,.bool false,.bool false] 244))
  have HP:=Hi (show PrAt (w1.alloc (.cells #[.bool true,.bool true,.bool false,.bool false,.bool false,.bool false] 244)) w1.heap.size ⟨true,true,false,false,false,false⟩ from PrAt.new w1 ⟨true,true,false,false,false,false⟩ 244)
  have hpr:prA (prt 2)=#[.bool true,.bool true,.bool false,.bool false,.bool false,.bool false]:=rfl
  clear hb1 x0
  have hx:=HX.out
  go_wp2_with (refine wpList_load_opG otP (by kernel_rfl) _ rfl _ rfl _ _ _ (by assumption) ?_)
  refine (fit2_any x q c _ hs HA.out).mono ?_
  rw [HF.out]
  rintro e w1 ⟨rfl,hb1⟩
  replace HB:=Hi (HB.out.trans (hb1.mono HB.out.size))
  replace HX:=Hi (HX.out.kept hb1)
  replace HA:=Hi (HA.out.kept hb1)
  replace HP:=Hi (HP.out.kept hb1)
  clear hb1 hx
  have hx:=HX.out
  obtain ⟨p0,p1,p2,p3,p4,p5⟩:=HP.out.cells
  dsimp only at p0 p1 p2 p3 p4 p5
  go_wp2_with (refine wpList_load_opG otP (by kernel_rfl) _ rfl _ rfl _ _ _ (by assumption) ?_)
  refine (alone2_any x q c _ HA.out).mono ?_
  rintro e w1 ⟨rfl,hb1⟩
  replace HB:=Hi (HB.out.trans (hb1.mono HB.out.size))
  replace HX:=Hi (HX.out.kept hb1)
  replace HA:=Hi (HA.out.kept hb1)
  replace HP:=Hi (HP.out.kept hb1)
  clear hb1 hx
  have hx:=HX.out
  obtain ⟨p0,p1,p2,p3,p4,p5⟩:=HP.out.cells
  dsimp only at p0 p1 p2 p3 p4 p5
  go_wp2
  go_ret
  exact ⟨ret_b (HR.out.trans HV.out).symm,HB.out⟩
theorem right3_any (x:Opp) (q:Option Addr) (c:Nat) (w:World) (hs:Sz x) (ha:Pa w x q c) (hk:x.k=3):Calls Tryz.prog 84 #[.agg (opA x q c)] w fun e w'=>e=.returned (.bool (rightO x))∧Below w.heap.size w w':=by
 obtain ⟨HX,HA,HB⟩:=right_start w x q c ha
 have HR:=Hi (rightO_of (x:=x) hk (by decide) (by decide))
 have HK:=Hi hk
 have HNA:=Hi (fun W=>named_any x.k W)
 rw [hk] at HNA
 obtain ⟨x0,-⟩:=HX.out.cells
 rw [hk] at x0
 clear hk
 cases hf:fitO ⟨true,false,false,false,true,false⟩ x with
 | false =>
  have HV:=Hi (show (fitO (prt 3) x && aloneO (prt 3) x)=false by rw [show fitO (prt 3) x=false from hf]; rfl)
  have HF:=Hi hf
  clear hf
  go_enter Tryz.func84,Tryz.ntmps84
  go_wp2_with fail
  refine (HNA.out _).mono ?_
  rintro e w1 ⟨rfl,hb1⟩
  replace HX:=Hi ((HX.out.kept hb1).kept ((Below.refl _ _).alloc (Nat.le_refl _) (.cells #[.bool true,.bool false,.bool false,.bool false,.bool true,.bool false] 244)))
  replace HA:=Hi ((HA.out.kept hb1).kept ((Below.refl _ _).alloc (Nat.le_refl _) (.cells #[.bool true,.bool false,.bool false,.bool false,.bool true,.bool false] 244)))
  replace HB:=Hi (HB.out.trans (hb1.mono HB.out.size))
  replace HB:=Hi (HB.out.alloc HB.out.size (.cells #[.bool true,.bool false,.bool false,.bool false,.bool true,.bool false] 244))
  have HP:=Hi (show PrAt (w1.alloc (.cells #[.bool true,.bool false,.bool false,.bool false,.bool true,.bool false] 244)) w1.heap.size ⟨true,false,false,false,true,false⟩ from PrAt.new w1 ⟨true,false,false,false,true,false⟩ 244)
  have hpr:prA (prt 3)=#[.bool true,.bool false,.bool false,.bool false,.bool true,.bool false]:=rfl
  clear hb1 x0
  have hx:=HX.out
  go_wp2_with (refine wpList_load_opG otP (by kernel_rfl) _ rfl _ rfl _ _ _ (by assumption) ?_)
  refine (fit3_any x q c _ hs HA.out).mono ?_
  rw [HF.out]
  rintro e w1 ⟨rfl,hb1⟩
  replace HB:=Hi (HB.out.trans (hb1.mono HB.out.size))
  replace HX:=Hi (HX.out.kept hb1)
  replace HA:=Hi (HA.out.kept hb1)
  replace HP:=Hi (HP.out.kept hb1)
  clear hb1 hx
  have hx:=HX.out
  obtain ⟨p0,p1,p2,p3,p4,p5⟩:=HP.out.cells
  dsimp only at p0 p1 p2 p3 p4 p5
  go_wp2
  go_ret
  exact ⟨ret_b (HR.out.trans HV.out).symm,HB.out⟩
 | true =>
  have HV:=Hi (show (fitO (prt 3) x && aloneO (prt 3) x)=aloneO ⟨true,false,false,false,true,false⟩ x by rw [show fitO (prt 3) x=true from hf]; rfl)
  have HF:=Hi hf
  clear hf
  go_enter Tryz.func84,Tryz.ntmps84
  go_wp2_with fail
  refine (HNA.out _).mono ?_
  rintro e w1 ⟨rfl,hb1⟩
  replace HX:=Hi ((HX.out.kept hb1).kept ((Below.refl _ _).alloc (Nat.le_refl _) (.cells #[.bool true,.bool false,.bool false,.bool false,.bool true,.bool false] 244)))
  replace HA:=Hi ((HA.out.kept hb1).kept ((Below.refl _ _).alloc (Nat.le_refl _) (.cells #[.bool true,.bool false,.bool false,.bool false,.bool true,.bool false] 244)))
  replace HB:=Hi (HB.out.trans (hb1.mono HB.out.size))
  replace HB:=Hi (HB.out.alloc HB.out.size (.cells #[.bool true,.bool false,.bool false,.bool false,.bool true,.bool false] 244))
  have HP:=Hi (show PrAt (w1.alloc (.cells #[.bool true,.bool false,.bool false,.bool false,.bool true,.bool false] 244)) w1.heap.size ⟨true,false,false,false,true,false⟩ from PrAt.new w1 ⟨true,false,false,false,true,false⟩ 244)
  have hpr:prA (prt 3)=#[.bool true,.bool false,.bool false,.bool false,.bool true,.bool false]:=rfl
  clear hb1 x0
  have hx:=HX.out
  go_wp2_with (refine wpList_load_opG otP (by kernel_rfl) _ rfl _ rfl _ _ _ (by assumption) ?_)
  refine (fit3_any x q c _ hs HA.out).mono ?_
  rw [HF.out]
  rintro e w1 ⟨rfl,hb1⟩
  replace HB:=Hi (HB.out.trans (hb1.mono HB.out.size))
  replace HX:=Hi (HX.out.kept hb1)
  replace HA:=Hi (HA.out.kept hb1)
  replace HP:=Hi (HP.out.kept hb1)
  clear hb1 hx
  have hx:=HX.out
  obtain ⟨p0,p1,p2,p3,p4,p5⟩:=HP.out.cells
  dsimp only at p0 p1 p2 p3 p4 p5
  go_wp2_with (refine wpList_load_opG otP (by kernel_rfl) _ rfl _ rfl _ _ _ (by assumption) ?_)
  refine (alone3_any x q c _ HA.out).mono ?_
  rintro e w1 ⟨rfl,hb1⟩
  replace HB:=Hi (HB.out.trans (hb1.mono HB.out.size))
  replace HX:=Hi (HX.out.kept hb1)
  replace HA:=Hi (HA.out.kept hb1)
  replace HP:=Hi (HP.out.kept hb1)
  clear hb1 hx
  have hx:=HX.out
  obtain ⟨p0,p1,p2,p3,p4,p5⟩:=HP.out.cells
  dsimp only at p0 p1 p2 p3 p4 p5
  go_wp2
  go_ret
  exact ⟨ret_b (HR.out.trans HV.out).symm,HB.out⟩
theorem right4_any (x:Opp) (q:Option Addr) (c:Nat) (w:World) (hs:Sz x) (ha:Pa w x q c) (hk:x.k=4):Calls Tryz.prog 84 #[.agg (opA x q c)] w fun e w'=>e=.returned (.bool (rightO x))∧Below w.heap.size w w':=by
 obtain ⟨HX,HA,HB⟩:=right_start w x q c ha
 have HR:=Hi (rightO_of (x:=x) hk (by decide) (by decide))
 have HK:=Hi hk
 have HNA:=Hi (fun W=>named_any x.k W)
 rw [hk] at HNA
 obtain ⟨x0,-⟩:=HX.out.cells
 rw [hk] at x0
 clear hk
 cases hf:fitO ⟨true,false,false,false,false,true⟩ x with
 | false =>
  have HV:=Hi (show (fitO (prt 4) x && aloneO (prt 4) x)=false by rw [show fitO (prt 4) x=false from hf]; rfl)
  have HF:=Hi hf
  clear hf
  go_enter Tryz.func84,Tryz.ntmps84
  go_wp2_with fail
  refine (HNA.out _).mono ?_
  rintro e w1 ⟨rfl,hb1⟩
  replace HX:=Hi ((HX.out.kept hb1).kept ((Below.refl _ _).alloc (Nat.le_refl _) (.cells #[.bool true,.bool false,.bool false,.bool false,.bool false,.bool true] 244)))
  replace HA:=Hi ((HA.out.kept hb1).kept ((Below.refl _ _).alloc (Nat.le_refl _) (.cells #[.bool true,.bool false,.bool false,.bool false,.bool false,.bool true] 244)))
  replace HB:=Hi (HB.out.trans (hb1.mono HB.out.size))
  replace HB:=Hi (HB.out.alloc HB.out.size (.cells #[.bool true,.bool false,.bool false,.bool false,.bool false,.bool true] 244))
  have HP:=Hi (show PrAt (w1.alloc (.cells #[.bool true,.bool false,.bool false,.bool false,.bool false,.bool true] 244)) w1.heap.size ⟨true,false,false,false,false,true⟩ from PrAt.new w1 ⟨true,false,false,false,false,true⟩ 244)
  have hpr:prA (prt 4)=#[.bool true,.bool false,.bool false,.bool false,.bool false,.bool true]:=rfl
  clear hb1 x0
  have hx:=HX.out
  go_wp2_with (refine wpList_load_opG otP (by kernel_rfl) _ rfl _ rfl _ _ _ (by assumption) ?_)
  refine (fit4_any x q c _ hs HA.out).mono ?_
  rw [HF.out]
  rintro e w1 ⟨rfl,hb1⟩
  replace HB:=Hi (HB.out.trans (hb1.mono HB.out.size))
  replace HX:=Hi (HX.out.kept hb1)
  replace HA:=Hi (HA.out.kept hb1)
  replace HP:=Hi (HP.out.kept hb1)
  clear hb1 hx
  have hx:=HX.out
  obtain ⟨p0,p1,p2,p3,p4,p5⟩:=HP.out.cells
  dsimp only at p0 p1 p2 p3 p4 p5
  go_wp2
  go_ret
  exact ⟨ret_b (HR.out.trans HV.out).symm,HB.out⟩
 | true =>
  have HV:=Hi (show (fitO (prt 4) x && aloneO (prt 4) x)=aloneO ⟨true,false,false,false,false,true⟩ x by rw [show fitO (prt 4) x=true from hf]; rfl)
  have HF:=Hi hf
  clear hf
  go_enter Tryz.func84,Tryz.ntmps84
  go_wp2_with fail
  refine (HNA.out _).mono ?_
  rintro e w1 ⟨rfl,hb1⟩
  replace HX:=Hi ((HX.out.kept hb1).kept ((Below.refl _ _).alloc (Nat.le_refl _) (.cells #[.bool true,.bool false,.bool false,.bool false,.bool false,.bool true] 244)))
  replace HA:=Hi ((HA.out.kept hb1).kept ((Below.refl _ _).alloc (Nat.le_refl _) (.cells #[.bool true,.bool false,.bool false,.bool false,.bool false,.bool true] 244)))
  replace HB:=Hi (HB.out.trans (hb1.mono HB.out.size))
  replace HB:=Hi (HB.out.alloc HB.out.size (.cells #[.bool true,.bool false,.bool false,.bool false,.bool false,.bool true] 244))
  have HP:=Hi (show PrAt (w1.alloc (.cells #[.bool true,.bool false,.bool false,.bool false,.bool false,.bool true] 244)) w1.heap.size ⟨true,false,false,false,false,true⟩ from PrAt.new w1 ⟨true,false,false,false,false,true⟩ 244)
  have hpr:prA (prt 4)=#[.bool true,.bool false,.bool false,.bool false,.bool false,.bool true]:=rfl
  clear hb1 x0
  have hx:=HX.out
  go_wp2_with (refine wpList_load_opG otP (by kernel_rfl) _ rfl _ rfl _ _ _ (by assumption) ?_)
  refine (fit4_any x q c _ hs HA.out).mono ?_
  rw [HF.out]
  rintro e w1 ⟨rfl,hb1⟩
  replace HB:=Hi (HB.out.trans (hb1.mono HB.out.size))
  replace HX:=Hi (HX.out.kept hb1)
  replace HA:=Hi (HA.out.kept hb1)
  replace HP:=Hi (HP.out.kept hb1)
  clear hb1 hx
  have hx:=HX.out
  obtain ⟨p0,p1,p2,p3,p4,p5⟩:=HP.out.cells
  dsimp only at p0 p1 p2 p3 p4 p5
  go_wp2_with (refine wpList_load_opG otP (by kernel_rfl) _ rfl _ rfl _ _ _ (by assumption) ?_)
  refine (alone4_any x q c _ HA.out).mono ?_
  rintro e w1 ⟨rfl,hb1⟩
  replace HB:=Hi (HB.out.trans (hb1.mono HB.out.size))
  replace HX:=Hi (HX.out.kept hb1)
  replace HA:=Hi (HA.out.kept hb1)
  replace HP:=Hi (HP.out.kept hb1)
  clear hb1 hx
  have hx:=HX.out
  obtain ⟨p0,p1,p2,p3,p4,p5⟩:=HP.out.cells
  dsimp only at p0 p1 p2 p3 p4 p5
  go_wp2
  go_ret
  exact ⟨ret_b (HR.out.trans HV.out).symm,HB.out⟩
theorem right5_any (x:Opp) (q:Option Addr) (c:Nat) (w:World) (hs:Sz x) (ha:Pa w x q c) (hk:x.k=5):Calls Tryz.prog 84 #[.agg (opA x q c)] w fun e w'=>e=.returned (.bool (rightO x))∧Below w.heap.size w w':=by
 obtain ⟨HX,HA,HB⟩:=right_start w x q c ha
 have HR:=Hi (rightO_of (x:=x) hk (by decide) (by decide))
 have HK:=Hi hk
 have HNA:=Hi (fun W=>named_any x.k W)
 rw [hk] at HNA
 obtain ⟨x0,-⟩:=HX.out.cells
 rw [hk] at x0
 clear hk
 cases hf:fitO ⟨true,false,true,false,false,false⟩ x with
 | false =>
  have HV:=Hi (show (fitO (prt 5) x && aloneO (prt 5) x)=false by rw [show fitO (prt 5) x=false from hf]; rfl)
  have HF:=Hi hf
  clear hf
  go_enter Tryz.func84,Tryz.ntmps84
  go_wp2_with fail
  refine (HNA.out _).mono ?_
  rintro e w1 ⟨rfl,hb1⟩
  replace HX:=Hi ((HX.out.kept hb1).kept ((Below.refl _ _).alloc (Nat.le_refl _) (.cells #[.bool true,.bool false,.bool true,.bool false,.bool false,.bool false] 244)))
  replace HA:=Hi ((HA.out.kept hb1).kept ((Below.refl _ _).alloc (Nat.le_refl _) (.cells #[.bool true,.bool false,.bool true,.bool false,.bool false,.bool false] 244)))
  replace HB:=Hi (HB.out.trans (hb1.mono HB.out.size))
  replace HB:=Hi (HB.out.alloc HB.out.size (.cells #[.bool true,.bool false,.bool true,.bool false,.bool false,.bool false] 244))
  have HP:=Hi (show PrAt (w1.alloc (.cells #[.bool true,.bool false,.bool true,.bool false,.bool false,.bool false] 244)) w1.heap.size ⟨true,false,true,false,false,false⟩ from PrAt.new w1 ⟨true,false,true,false,false,false⟩ 244)
  have hpr:prA (prt 5)=#[.bool true,.bool false,.bool true,.bool false,.bool false,.bool false]:=rfl
  clear hb1 x0
  have hx:=HX.out
  go_wp2_with (refine wpList_load_opG otP (by kernel_rfl) _ rfl _ rfl _ _ _ (by assumption) ?_)
  refine (fit5_any x q c _ hs HA.out).mono ?_
  rw [HF.out]
  rintro e w1 ⟨rfl,hb1⟩
  replace HB:=Hi (HB.out.trans (hb1.mono HB.out.size))
  replace HX:=Hi (HX.out.kept hb1)
  replace HA:=Hi (HA.out.kept hb1)
  replace HP:=Hi (HP.out.kept hb1)
  clear hb1 hx
  have hx:=HX.out
  obtain ⟨p0,p1,p2,p3,p4,p5⟩:=HP.out.cells
  dsimp only at p0 p1 p2 p3 p4 p5
  go_wp2
  go_ret
  exact ⟨ret_b (HR.out.trans HV.out).symm,HB.out⟩
 | true =>
  have HV:=Hi (show (fitO (prt 5) x && aloneO (prt 5) x)=aloneO ⟨true,false,true,false,false,false⟩ x by rw [show fitO (prt 5) x=true from hf]; rfl)
  have HF:=Hi hf
  clear hf
  go_enter Tryz.func84,Tryz.ntmps84
  go_wp2_with fail
  refine (HNA.out _).mono ?_
  rintro e w1 ⟨rfl,hb1⟩
  replace HX:=Hi ((HX.out.kept hb1).kept ((Below.refl _ _).alloc (Nat.le_refl _) (.cells #[.bool true,.bool false,.bool true,.bool false,.bool false,.bool false] 244)))
  replace HA:=Hi ((HA.out.kept hb1).kept ((Below.refl _ _).alloc (Nat.le_refl _) (.cells #[.bool true,.bool false,.bool true,.bool false,.bool false,.bool false] 244)))
  replace HB:=Hi (HB.out.trans (hb1.mono HB.out.size))
  replace HB:=Hi (HB.out.alloc HB.out.size (.cells #[.bool true,.bool false,.bool true,.bool false,.bool false,.bool false] 244))
  have HP:=Hi (show PrAt (w1.alloc (.cells #[.bool true,.bool false,.bool true,.bool false,.bool false,.bool false] 244)) w1.heap.size ⟨true,false,true,false,false,false⟩ from PrAt.new w1 ⟨true,false,true,false,false,false⟩ 244)
  have hpr:prA (prt 5)=#[.bool true,.bool false,.bool true,.bool false,.bool false,.bool false]:=rfl
  clear hb1 x0
  have hx:=HX.out
  go_wp2_with (refine wpList_load_opG otP (by kernel_rfl) _ rfl _ rfl _ _ _ (by assumption) ?_)
  refine (fit5_any x q c _ hs HA.out).mono ?_
  rw [HF.out]
  rintro e w1 ⟨rfl,hb1⟩
  replace HB:=Hi (HB.out.trans (hb1.mono HB.out.size))
  replace HX:=Hi (HX.out.kept hb1)
  replace HA:=Hi (HA.out.kept hb1)
  replace HP:=Hi (HP.out.kept hb1)
  clear hb1 hx
  have hx:=HX.out
  obtain ⟨p0,p1,p2,p3,p4,p5⟩:=HP.out.cells
  dsimp only at p0 p1 p2 p3 p4 p5
  go_wp2_with (refine wpList_load_opG otP (by kernel_rfl) _ rfl _ rfl _ _ _ (by assumption) ?_)
  refine (alone5_any x q c _ HA.out).mono ?_
  rintro e w1 ⟨rfl,hb1⟩
  replace HB:=Hi (HB.out.trans (hb1.mono HB.out.size))
  replace HX:=Hi (HX.out.kept hb1)
  replace HA:=Hi (HA.out.kept hb1)
  replace HP:=Hi (HP.out.kept hb1)
  clear hb1 hx
  have hx:=HX.out
  obtain ⟨p0,p1,p2,p3,p4,p5⟩:=HP.out.cells
  dsimp only at p0 p1 p2 p3 p4 p5
  go_wp2
  go_ret
  exact ⟨ret_b (HR.out.trans HV.out).symm,HB.out⟩
theorem right6_any (x:Opp) (q:Option Addr) (c:Nat) (w:World) (hs:Sz x) (ha:Pa w x q c) (hk:x.k=6):Calls Tryz.prog 84 #[.agg (opA x q c)] w fun e w'=>e=.returned (.bool (rightO x))∧Below w.heap.size w w':=by
 obtain ⟨HX,HA,HB⟩:=right_start w x q c ha
 have HR:=Hi (rightO_of (x:=x) hk (by decide) (by decide))
 have HK:=Hi hk
 have HNA:=Hi (fun W=>named_any x.k W)
 rw [hk] at HNA
 obtain ⟨x0,-⟩:=HX.out.cells
 rw [hk] at x0
 clear hk
 cases hf:fitO ⟨true,false,false,true,true,false⟩ x with
 | false =>
  have HV:=Hi (show (fitO (prt 6) x && aloneO (prt 6) x)=false by rw [show fitO (prt 6) x=false from hf]; rfl)
  have HF:=Hi hf
  clear hf
  go_enter Tryz.func84,Tryz.ntmps84
  go_wp2_with fail
  refine (HNA.out _).mono ?_
  rintro e w1 ⟨rfl,hb1⟩
  replace HX:=Hi ((HX.out.kept hb1).kept ((Below.refl _ _).alloc (Nat.le_refl _) (.cells #[.bool true,.bool false,.bool false,.bool true,.bool true,.bool false] 244)))
  replace HA:=Hi ((HA.out.kept hb1).kept ((Below.refl _ _).alloc (Nat.le_refl _) (.cells #[.bool true,.bool false,.bool false,.bool true,.bool true,.bool false] 244)))
  replace HB:=Hi (HB.out.trans (hb1.mono HB.out.size))
  replace HB:=Hi (HB.out.alloc HB.out.size (.cells #[.bool true,.bool false,.bool false,.bool true,.bool true,.bool false] 244))
  have HP:=Hi (show PrAt (w1.alloc (.cells #[.bool true,.bool false,.bool false,.bool true,.bool true,.bool false] 244)) w1.heap.size ⟨true,false,false,true,true,false⟩ from PrAt.new w1 ⟨true,false,false,true,true,false⟩ 244)
  have hpr:prA (prt 6)=#[.bool true,.bool false,.bool false,.bool true,.bool true,.bool false]:=rfl
  clear hb1 x0
  have hx:=HX.out
  go_wp2_with (refine wpList_load_opG otP (by kernel_rfl) _ rfl _ rfl _ _ _ (by assumption) ?_)
  refine (fit6_any x q c _ hs HA.out).mono ?_
  rw [HF.out]
  rintro e w1 ⟨rfl,hb1⟩
  replace HB:=Hi (HB.out.trans (hb1.mono HB.out.size))
  replace HX:=Hi (HX.out.kept hb1)
  replace HA:=Hi (HA.out.kept hb1)
  replace HP:=Hi (HP.out.kept hb1)
  clear hb1 hx
  have hx:=HX.out
  obtain ⟨p0,p1,p2,p3,p4,p5⟩:=HP.out.cells
  dsimp only at p0 p1 p2 p3 p4 p5
  go_wp2
  go_ret
  exact ⟨ret_b (HR.out.trans HV.out).symm,HB.out⟩
 | true =>
  have HV:=Hi (show (fitO (prt 6) x && aloneO (prt 6) x)=aloneO ⟨true,false,false,true,true,false⟩ x by rw [show fitO (prt 6) x=true from hf]; rfl)
  have HF:=Hi hf
  clear hf
  go_enter Tryz.func84,Tryz.ntmps84
  go_wp2_with fail
  refine (HNA.out _).mono ?_
  rintro e w1 ⟨rfl,hb1⟩
  replace HX:=Hi ((HX.out.kept hb1).kept ((Below.refl _ _).alloc (Nat.le_refl _) (.cells #[.bool true,.bool false,.bool false,.bool true,.bool true,.bool false] 244)))
  replace HA:=Hi ((HA.out.kept hb1).kept ((Below.refl _ _).alloc (Nat.le_refl _) (.cells #[.bool true,.bool false,.bool false,.bool true,.bool true,.bool false] 244)))
  replace HB:=Hi (HB.out.trans (hb1.mono HB.out.size))
  replace HB:=Hi (HB.out.alloc HB.out.size (.cells #[.bool true,.bool false,.bool false,.bool true,.bool true,.bool false] 244))
  have HP:=Hi (show PrAt (w1.alloc (.cells #[.bool true,.bool false,.bool false,.bool true,.bool true,.bool false] 244)) w1.heap.size ⟨true,false,false,true,true,false⟩ from PrAt.new w1 ⟨true,false,false,true,true,false⟩ 244)
  have hpr:prA (prt 6)=#[.bool true,.bool false,.bool false,.bool true,.bool true,.bool false]:=rfl
  clear hb1 x0
  have hx:=HX.out
  go_wp2_with (refine wpList_load_opG otP (by kernel_rfl) _ rfl _ rfl _ _ _ (by assumption) ?_)
  refine (fit6_any x q c _ hs HA.out).mono ?_
  rw [HF.out]
  rintro e w1 ⟨rfl,hb1⟩
  replace HB:=Hi (HB.out.trans (hb1.mono HB.out.size))
  replace HX:=Hi (HX.out.kept hb1)
  replace HA:=Hi (HA.out.kept hb1)
  replace HP:=Hi (HP.out.kept hb1)
  clear hb1 hx
  have hx:=HX.out
  obtain ⟨p0,p1,p2,p3,p4,p5⟩:=HP.out.cells
  dsimp only at p0 p1 p2 p3 p4 p5
  go_wp2_with (refine wpList_load_opG otP (by kernel_rfl) _ rfl _ rfl _ _ _ (by assumption) ?_)
  refine (alone6_any x q c _ HA.out).mono ?_
  rintro e w1 ⟨rfl,hb1⟩
  replace HB:=Hi (HB.out.trans (hb1.mono HB.out.size))
  replace HX:=Hi (HX.out.kept hb1)
  replace HA:=Hi (HA.out.kept hb1)
  replace HP:=Hi (HP.out.kept hb1)
  clear hb1 hx
  have hx:=HX.out
  obtain ⟨p0,p1,p2,p3,p4,p5⟩:=HP.out.cells
  dsimp only at p0 p1 p2 p3 p4 p5
  go_wp2
  go_ret
  exact ⟨ret_b (HR.out.trans HV.out).symm,HB.out⟩
theorem oright_any (x:Opp) (q:Option Addr) (c:Nat) (w:World) (hs:Sz x) (ha:Pa w x q c):Calls Tryz.prog 84 #[.agg (opA x q c)] w fun e w'=>e=.returned (.bool (rightO x))∧Below w.heap.size w w':=by
 by_cases h1:x.k=1
 ·exact right1_any x q c w hs ha h1
 by_cases h2:x.k=2
 ·exact right2_any x q c w hs ha h2
 by_cases h3:x.k=3
 ·exact right3_any x q c w hs ha h3
 by_cases h4:x.k=4
 ·exact right4_any x q c w hs ha h4
 by_cases h5:x.k=5
 ·exact right5_any x q c w hs ha h5
 by_cases h6:x.k=6
 ·exact right6_any x q c w hs ha h6
 obtain ⟨HX,HA,HB⟩:=right_start w x q c ha
 have HR:=Hi (rightO_none h1 h2 h3 h4 h5 h6)
 have HNA:=Hi (fun W=>named_any x.k W)
 rw [prt_none h1 h2 h3 h4 h5 h6] at HNA
 obtain ⟨x0,-⟩:=HX.out.cells
 clear h1 h2 h3 h4 h5 h6 ha hs
 go_enter Tryz.func84,Tryz.ntmps84
 go_wp2_with fail
 refine (HNA.out _).mono ?_
 rintro e w1 ⟨rfl,hb1⟩
 replace HB:=Hi (HB.out.trans (hb1.mono HB.out.size))
 replace HB:=Hi (HB.out.alloc HB.out.size (.cells #[.bool false,.bool false,.bool false,.bool false,.bool false,.bool false] 244))
 have hpr:prA ⟨false,false,false,false,false,false⟩=#[.bool false,.bool false,.bool false,.bool false,.bool false,.bool false]:=rfl
 clear hb1 x0
 go_wp2
 go_ret
 exact ⟨ret_b HR.out.symm,HB.out⟩
open Go.RowKit
theorem wpList_store_newop' {t:TypeId} (V:OT t) {ops:Array Oper} {rest:List Oper} {o:Oper} {a:Act} {w:World} {T:TypeId} {Q:Exit→Act→World→Prop} (hgd:o.guard=none) (x y:Operand) (ho:o.op=.store t x y)
  (hx:a.eval x=.pointer (some ⟨w.heap.size,0,none⟩)) (A:Array Value) (hA:A.size=12) (v:Opp) (q:Option Addr) (c:Nat) (hy:a.eval y=.agg (opA v q c))
  (h:∀ w':World,OpAt w' w.heap.size v q c→Below w.heap.size w w'→wpList Tryz.prog ops Q rest (a.put o.dst undef) w'):wpList Tryz.prog ops Q (o :: rest) a (w.alloc (.cells A T)) :=
 wpList_store_op V hgd x y ho w.heap.size hx T A (heap_alloc_new w _) hA v q c hy fun w' hv _ _ hb=>h w' hv (hb _ _ ((Below.refl _ _).alloc (Nat.le_refl _) _) (Nat.le_refl _))
theorem allRight_any (p:Option Addr) (c:Nat) (l:List En) (ops:List Opp) (w:World) (hs:Szs ops) (h:Os w p c l ops) :
  Calls Tryz.prog 236 #[.slice p ops.length c] w fun e w'=>e=.returned (.bool (ops.all rightO))∧Below w.heap.size w w':=by
 have HOS:=Hi h
 have HSZ:=Hi hs
 have hlen:=hs.len
 rcases Nat.eq_zero_or_pos ops.length with h0 | h0
 ·have HR:=Hi (show ops.all rightO=true by rw [List.eq_nil_of_length_eq_zero h0]; rfl)
  clear h hs
  generalize ops.length=n at *
  subst h0
  go_enter Tryz.func236,Tryz.ntmps236
  go_wp2
  go_loop [7] (fun i=>i=.int .i64 0) (fun _=>0)
  case atStart=>rfl
  case round =>
   subst hrel
   go_wp2
   go_ret
   exact ⟨ret_b HR.out.symm,Below.refl _ _⟩
 ·obtain ⟨b,o,rfl,hb⟩:=h.rd.addr (by rw [enCells_length,h.len]; omega)
  clear h hs
  go_enter Tryz.func236,Tryz.ntmps236
  go_wp2
  go_loopw [7] (fun i wr=>∃ k:Nat,k≤ops.length∧i=.int .i64 (k:Int)∧(∀ j,j<k→rightO (opOf ops j)=true)∧Below w.heap.size w wr) (fun i _=>ops.length - (intOf i).toNat)
  case atStart=>exact ⟨0,Nat.zero_le _,rfl,fun j hj=>absurd hj (Nat.not_lt_zero _),Below.refl _ _⟩
  case round =>
   obtain ⟨k,hk,rfl,ho,hbw⟩:=hrel
   have HO:=Hi ho
   have HBW:=Hi hbw
   clear ho hbw
   by_cases hlt:k<ops.length
   ·have HRD:=Hi (HOS.out.kept HBW.out)
    have HX:=Hi (HOS.out.x k)
    have HPA:=Hi (HRD.out.paOf hlt)
    have HN:=Hi (fun (W:World) (hp:Pa W (opOf ops k) (enOf l k).q (enOf l k).c)=>oright_any (opOf ops k) (enOf l k).q (enOf l k).c W (HSZ.out.of hlt) hp)
    have HNO:=Hi (fun h=>all_no (l:=ops) (f:=rightO) hlt h)
    have HST:=Hi (show rightO (opOf ops k)=true→∀ j,j<k+1→rightO (opOf ops j)=true from fun he j hj=>by
     rcases Nat.lt_or_ge j k with e | e
     ·exact HO.out j e
     ·obtain rfl:j=k:=by omega
      exact he)
    have hll:=HRD.out.len
    go_wp2_with (first | (refine wpList_load_en otP rfl _ rfl _ _ _ rfl _ HRD.out.rd (by omega) ?_; rw [HX.out]) | (refine wpList_store_newop' otP rfl _ _ rfl rfl _ rfl _ _ _ rfl ?_; intro wz hvz hbz) | (refine wpList_load_op otP rfl _ rfl _ rfl _ _ _ (by assumption) ?_))
    refine (HN.out _ (HPA.out.kept hbz)).mono ?_
    have HB3:=Hi (fun w1 (hb1:Below wz.heap.size wz w1)=>(HBW.out.trans (hbz.mono HBW.out.size)).trans (hb1.mono (Nat.le_trans HBW.out.size hbz.size)))
    clear hvz hbz
    cases hr:rightO (opOf ops k) with
    | false =>
     have HR:=Hi (HNO.out hr)
     rintro e w1 ⟨rfl,hb1⟩
     have HB4:=Hi (HB3.out _ hb1)
     clear hb1
     go_wp2
     go_ret
     exact ⟨ret_b HR.out.symm,HB4.out⟩
    | true =>
     have HR:=Hi (HST.out hr)
     rintro e w1 ⟨rfl,hb1⟩
     have HB4:=Hi (HB3.out _ hb1)
     clear hb1
     go_wp2
     go_roundw
     case rel=>exact ⟨k+1,by omega,by go_num,HR.out,HB4.out⟩
     case measure=>simp [intOf]; omega
   ·obtain rfl:k=ops.length:=by omega
    have HR:=Hi (all_yes (l:=ops) (f:=rightO) HO.out)
    go_wp2
    go_ret
    exact ⟨ret_b HR.out.symm,HBW.out⟩
theorem bright_any (x:Bat) (p:Option Addr) (c:Nat) (w:World) (hs:Szs x.ops) (h:Bops w x p c):Calls Tryz.prog 143 #[.agg (btA x p c)] w fun e w'=>e=.returned (.bool (rightT x))∧Below w.heap.size w w':=by
 obtain ⟨l,h⟩:=h
 have HX:=Hi (AgAt.new w (btA x p c) 81)
 have HB:=Hi ((Below.refl w.heap.size w).alloc (Nat.le_refl _) (.cells (btA x p c) 81))
 have HOS:=Hi (h.kept ((Below.refl w.heap.size w).alloc (Nat.le_refl _) (.cells (btA x p c) 81)))
 have HA:=Hi (fun W (hw:Os W p c l x.ops)=>allRight_any p c l x.ops W hs hw)
 have hlen:=hs.len
 obtain ⟨x0,x1,x2,x3⟩:=BtAt.cells HX.out
 have HHN:=Hi (fun hn=>headT_no (x:=x) hn)
 have HHY:=Hi (fun hn=>headT_yes (x:=x) hn)
 have HRH:=Hi (fun hn=>rightT_head (x:=x) hn)
 have HRN:=Hi (fun hn=>rightT_nohead (x:=x) hn)
 clear h hs
 by_cases h0:0≤x.r
 rotate_left
 ·have d0:decide ((0:Int)≤x.r)=false:=decide_eq_false (by omega)
  have HR:=Hi (HRN.out (HHN.out (by omega)))
  generalize x.ops.length=n at *
  go_enter Tryz.func143,Tryz.ntmps143
  go_wp2
  go_ret
  exact ⟨ret_b HR.out.symm,HB.out⟩
 have d0:decide ((0:Int)≤x.r)=true:=decide_eq_true (by omega)
 by_cases h1:x.r≤15
 rotate_left
 ·have d1:decide (x.r≤15)=false:=decide_eq_false (by omega)
  have HR:=Hi (HRN.out (HHN.out (by omega)))
  generalize x.ops.length=n at *
  go_enter Tryz.func143,Tryz.ntmps143
  go_wp2
  go_ret
  exact ⟨ret_b HR.out.symm,HB.out⟩
 have d1:decide (x.r≤15)=true:=decide_eq_true (by omega)
 by_cases h2:1≤x.s
 rotate_left
 ·have d2:decide ((1:Int)≤x.s)=false:=decide_eq_false (by omega)
  have HR:=Hi (HRN.out (HHN.out (by omega)))
  generalize x.ops.length=n at *
  go_enter Tryz.func143,Tryz.ntmps143
  go_wp2
  go_ret
  exact ⟨ret_b HR.out.symm,HB.out⟩
 have d2:decide ((1:Int)≤x.s)=true:=decide_eq_true (by omega)
 by_cases h3:x.s≤512
 rotate_left
 ·have d3:decide (x.s≤512)=false:=decide_eq_false (by omega)
  have HR:=Hi (HRN.out (HHN.out (by omega)))
  generalize x.ops.length=n at *
  go_enter Tryz.func143,Tryz.ntmps143
  go_wp2
  go_ret
  exact ⟨ret_b HR.out.symm,HB.out⟩
 have d3:decide (x.s≤512)=true:=decide_eq_true (by omega)
 by_cases h4:1≤x.ops.length
 rotate_left
 ·have d4:decide ((1:Int)≤(x.ops.length:Int))=false:=decide_eq_false (by omega)
  have HR:=Hi (HRN.out (HHN.out (by omega)))
  generalize x.ops.length=n at *
  go_enter Tryz.func143,Tryz.ntmps143
  go_wp2
  go_ret
  exact ⟨ret_b HR.out.symm,HB.out⟩
 have d4:decide ((1:Int)≤(x.ops.length:Int))=true:=decide_eq_true (by omega)
 by_cases h5:x.ops.length≤64
 rotate_left
 ·have d5:decide ((x.ops.length:Int)≤64)=false:=decide_eq_false (by omega)
  have HR:=Hi (HRN.out (HHN.out (by omega)))
  generalize x.ops.length=n at *
  go_enter Tryz.func143,Tryz.ntmps143
  go_wp2
  go_ret
  exact ⟨ret_b HR.out.symm,HB.out⟩
 have d5:decide ((x.ops.length:Int)≤64)=true:=decide_eq_true (by omega)
 by_cases h6:1≤x.t
 rotate_left
 ·have d6:decide ((1:Int)≤x.t)=false:=decide_eq_false (by omega)
  have HR:=Hi (HRN.out (HHN.out (by omega)))
  generalize x.ops.length=n at *
  go_enter Tryz.func143,Tryz.ntmps143
  go_wp2
  go_ret
  exact ⟨ret_b HR.out.symm,HB.out⟩
 have d6:decide ((1:Int)≤x.t)=true:=decide_eq_true (by omega)
 by_cases h7:x.t≤1099511627776 - ((x.ops.length:Int) - 1)
 rotate_left
 ·have d7:decide (x.t≤1099511627776 - ((x.ops.length:Int) - 1))=false:=decide_eq_false (by omega)
  have HR:=Hi (HRN.out (HHN.out (by omega)))
  generalize x.ops.length=n at *
  go_enter Tryz.func143,Tryz.ntmps143
  go_wp2
  go_ret
  exact ⟨ret_b HR.out.symm,HB.out⟩
 have d7:decide (x.t≤1099511627776 - ((x.ops.length:Int) - 1))=true:=decide_eq_true (by omega)
 have HR:=Hi (HRH.out (HHY.out (by omega)))
 go_enter Tryz.func143,Tryz.ntmps143
 go_wp2_with fail
 refine (HA.out _ HOS.out).mono ?_
 rintro e w1 ⟨rfl,hb1⟩
 have HB2:=Hi (HB.out.trans (hb1.mono HB.out.size))
 clear hb1
 go_wp2
 go_ret
 exact ⟨ret_b HR.out.symm,HB2.out⟩
open Go.RowKit
open Go.RowKit
open Go.RowKit
section
variable {P:Program}
end
def OwnP (w:World) (B:Nat) (v:Value) (l:List Qm.St):Prop:=w.ownsRow B 35 2 v l.length (stCells l)
theorem OwnP.only {w w':World} {B b:Nat} {v:Value} {l:List Qm.St} (h:OwnP w B v l) (ho:Only b w w') (hb:b<B):OwnP w' B v l :=
 World.ownsRow.kept (row:=some b) h ho (by
  cases hv:v.ownBlock with
  | none=>simp
  | some g=>have:=(World.ownsRow.lt h g hv).1; simp; omega)
open Go.RowKit
theorem step_append_kL {P:Program} {w:World} {ops:Array Oper} {o:Oper} {a:Act} {K:Act→World→Prop} {Q:Exit→Act→World→Prop} {E:Prop} (hgd:o.guard=none) (s x:Operand) (t:TypeId)
  (ho:o.op=.call { callee:=.builtin .append,args:=#[s,x],argTypes:=#[t,t] })
  (base:Nat) (e:TypeId) (i:TypeInfo) (z:Value) (k bytes:Nat) (ht:P.underlying t=some (.slice e)) (hi:P.info? e=some i) (hz:i.zero=some z)
  (hsize:i.size=k) (hk0:0<k) (hby:i.bytes=bytes) (hb1:bytes≤1000) (hzs:z.cells.size=k)
  (v:Value) (n:Nat) (xs:List Value) (hs:a.eval s=v) (hown:w.ownsRow base e k v n xs)
  (p:Option Addr) (m c:Nat) (us:List Value) (hx:a.eval x=.slice p m c) (hus:us.length=m * k) (hrd:Rd w p us) (hpn:p=none→c=0) (h1:∀ u ∈ us,u.oneCell'=true)
  (hsz:n+m≤10000) (hbase:base≤w.heap.size)
  (h:∀ p' c' w',w'.ownsRow base e k (.slice p' (n+m) c') (n+m) (xs ++ us)→w.grownBy w' v.ownBlock→K (a.put o.dst (.slice p' (n+m) c')) w') :
  if Region.wanted o (yielded ops a.tmps)=true then Oper.wp P o a w K Q else E:=by
 have hw:Region.wanted o (yielded ops a.tmps)=true:=by simp [Region.wanted,hgd]
 rw [if_pos hw]
 obtain ⟨v',w',hr,h2,h3,h4⟩:=run_append_k (P:=P) w base t o.type e i z k bytes ht hi hz hsize hk0 hby (by omega) hzs v n xs hown p m c us hus hrd hpn h1
  (Nat.le_trans (Nat.mul_le_mul hsz hb1) (by decide)) (by unfold maxLen; omega) hbase
 obtain ⟨p',c',rfl,-⟩:=own_rd h2
 unfold Oper.wp execOp
 simp only [ho,resolve,invoke,builtin,Sem.run_bind,Sem.run_pure,Result.andThen_ok,List.map_toArray,List.map_cons,List.map_nil,hs,hx,hr]
 exact h p' c' w' h2 h3
theorem step_store_op {t:TypeId} (V:OT t) {w:World} {ops:Array Oper} {o:Oper} {a:Act} {K:Act→World→Prop} {Q:Exit→Act→World→Prop} {E:Prop} (hgd:o.guard=none) (x y:Operand) (ho:o.op=.store t x y)
  (b:Nat) (hx:a.eval x=.pointer (some ⟨b,0,none⟩)) (T:TypeId) (u:Array Value) (hv:w.heap[b]?=some (.cells u T (0,0))) (hu:u.size=12) (v:Opp) (q:Option Addr) (c:Nat) (hy:a.eval y=.agg (opA v q c))
  (h:∀ w':World,OpAt w' b v q c→(∀ k,k≠b→w'.heap[k]?=w.heap[k]?)→w'.heap.size=w.heap.size→(∀ B w0,Below B w0 w→B≤b→Below B w0 w')→K (a.put o.dst undef) w') :
  if Region.wanted o (yielded ops a.tmps)=true then Oper.wp Tryz.prog o a w K Q else E:=by
 have hw:Region.wanted o (yielded ops a.tmps)=true:=by simp [Region.wanted,hgd]
 rw [if_pos hw]
 have hr:=run_storeVar_op V w b T u (opA v q c) hv hu rfl (opA_one _ _ _)
 have hk:K (a.put o.dst undef) (w.setRow b (opA v q c)):=by
  refine h _ ⟨T,setRow_heap w b _ _ T _ hv⟩ (fun k hk=>setRow_other w b k _ hk) (by simp) ?_
  intro B w0 hb hB
  exact hb.trans ⟨rfl,rfl,rfl,by simp,fun k hk=>setRow_other w b k _ (by omega)⟩
 unfold Oper.wp execOp
 simp only [ho,hx,hy,Instr.storeAt,Instr.sureAddr,Sem.run_bind,Sem.run_pure,Result.andThen_ok,hr]
 exact hk
structure OwS (w0:World) (X:Nat) (x:Opp) (q:Option Addr) (c:Nat) (W:World):Prop where
 hX:w0.heap.size≤X
 op:OpAt W X x q c
 res:∃ A T,W.heap[X+1]?=some (.cells A T (0,0))∧A.size=12
 pa:Pa w0 x q c
 below:Below w0.heap.size w0 W
theorem OwS.kept {w0 W W':World} {X:Nat} {x:Opp} {q:Option Addr} {c:Nat} (h:OwS w0 X x q c W) (hb:Below W.heap.size W W'):OwS w0 X x q c W':=by
 obtain ⟨h0,h1,⟨A,T,h2,h3⟩,h4,h5⟩:=h
 exact ⟨h0,h1.kept hb,⟨A,T,by rw [hb.block _ (Array.getElem?_eq_some_iff.1 h2).1]; exact h2,h3⟩,h4,h5.trans (hb.mono h5.size)⟩
theorem OwS.paw {w0 W:World} {X:Nat} {x:Opp} {q:Option Addr} {c:Nat} (h:OwS w0 X x q c W):Pa W x q c:=h.pa.kept h.below
theorem OwS.lt {w0 W:World} {X:Nat} {x:Opp} {q:Option Addr} {c:Nat} (h:OwS w0 X x q c W):X+1<W.heap.size:=by
 obtain ⟨A,T,h2,-⟩:=h.res
 exact (Array.getElem?_eq_some_iff.1 h2).1
theorem OwS.stored {w0 W W':World} {X:Nat} {x y:Opp} {q q':Option Addr} {c c':Nat} (h:OwS w0 X x q c W) (hv:OpAt W' (X+1) y q' c') (hko:∀ k,k≠X+1→W'.heap[k]?=W.heap[k]?) (hbn:∀ B w1,Below B w1 W→B≤X+1→Below B w1 W'):OwS w0 X x q c W':=by
 obtain ⟨T,hT⟩:=hv
 exact ⟨h.hX,h.op.block (hko X (by omega)),⟨_,T,hT,rfl⟩,h.pa,hbn _ _ h.below (by have:=h.hX; omega)⟩
theorem OwnP.paStored {w w':World} {B R:Nat} {x:Opp} {p:Option Addr} {c:Nat} (h:OwnP w B (.slice p x.path.length c) x.path) (hR:R<B) (hko:∀ k,k≠R→w'.heap[k]?=w.heap[k]?):Pa w' x p c:=by
 obtain ⟨p',c',e,h1,h2,-,h3,h4⟩:=own_rd h
 cases e
 refine ⟨fun h0=>?_,h3,h2⟩
 obtain ⟨b',o',rfl,hc⟩:=h1 h0
 have:=(h4 _ rfl).1
 exact ⟨b',o',rfl,fun i u hu=>by rw [World.cell?_of_block (w:=w) (hko b' (by simp only at this; omega))]; exact hc i u hu⟩
theorem OwS.start (w:World) (x:Opp) (q:Option Addr) (c:Nat) (ha:Pa w x q c) (A:Array Value) (hA:A=opA Opp.zero none 0):OwS w w.heap.size x q c (((w.alloc (.cells (opA x q c) 40)).alloc (.cells A 43)).drew):=by
 refine OwS.kept (W:=(w.alloc (.cells (opA x q c) 40)).alloc (.cells A 43)) ?_ (Below.drew (Below.refl _ _))
 subst hA
 have h1:∀ (w:World) (o:Obj),Below w.heap.size w (w.alloc o):=fun w o=>(Below.refl _ _).alloc (Nat.le_refl _) _
 have e1:(w.alloc (.cells (opA x q c) 40)).heap.size=w.heap.size+1:=by simp
 have k:=heap_alloc_new (w.alloc (.cells (opA x q c) 40)) (.cells (opA Opp.zero none 0) 43)
 rw [e1] at k
 exact ⟨Nat.le_refl _,(OpAt.new w x q c _).kept (h1 _ _),⟨_,_,k,rfl⟩,ha,(h1 _ _).trans ((h1 _ _).mono (by simp))⟩
def OwnedN (w:World) (x:Opp) (e:Ending) (w':World):Prop:=∃ q c,e=.returned (.agg (opA x q c))∧Pa w' x q c∧Below w.heap.size w w'∧(∀ a,q=some a→w.heap.size≤a.block)
theorem ownN_any (x:Opp) (q:Option Addr) (c:Nat) (w:World) (ha:Pa w x q c) (hl:x.path.length≤5000):Calls Tryz.prog 18 #[.agg (opA x q c)] w (OwnedN w x):=by
 obtain ⟨i0,hi,hz0,hz1,hz2⟩:=info_parts oinfo_st
 have HST:=Hi (OwS.start w x q c ha #[.int .i64 0,.int .i64 0,.int .i64 0,.int .i64 0,.int .i64 0,.string ⟨#[]⟩,.slice none 0 0,.int .i64 0,.int .i64 0,.int .i64 0,.string ⟨#[]⟩,.bool false] rfl)
 clear ha
 go_enter Tryz.func18,Tryz.ntmps18
 go_upto_region 1 with fail
 refine wp_region_held_drew (S:=OwS w w.heap.size x q c) (by kernel_rfl) HST.out (fun hS=>?_)
 clear HST
 generalize ((w.alloc (.cells (opA x q c) 40)).alloc (.cells #[.int .i64 0,.int .i64 0,.int .i64 0,.int .i64 0,.int .i64 0,.string ⟨#[]⟩,.slice none 0 0,.int .i64 0,.int .i64 0,.int .i64 0,.string ⟨#[]⟩,.bool false] 43)).drew=W0 at *
 have HS0:=Hi hS
 refine tX 0 rfl hS ?_
 refine tK 1 (v:=?_) rfl ?_ hS ?_
 rotate_left
 ·intro W hSW
  obtain ⟨x0,x1,x2,x3,x4,x5,x6,x7,x8,x9,x10,x11⟩:=hSW.op.cells
  go_simp
  all_goals with_reducible rfl
 refine tX 2 rfl hS ?_
 refine tK 3 (v:=?_) rfl ?_ hS ?_
 rotate_left
 ·intro W hSW
  obtain ⟨x0,x1,x2,x3,x4,x5,x6,x7,x8,x9,x10,x11⟩:=hSW.op.cells
  go_simp
  all_goals with_reducible rfl
 go_simp
 refine tX 4 rfl hS ?_
 refine tK 5 (v:=?_) rfl ?_ hS ?_
 rotate_left
 ·intro W hSW
  obtain ⟨x0,x1,x2,x3,x4,x5,x6,x7,x8,x9,x10,x11⟩:=hSW.op.cells
  go_simp
  all_goals with_reducible rfl
 refine tX 6 rfl hS ?_
 refine tK 7 (v:=?_) rfl ?_ hS ?_
 rotate_left
 ·intro W hSW
  obtain ⟨x0,x1,x2,x3,x4,x5,x6,x7,x8,x9,x10,x11⟩:=hSW.op.cells
  go_simp
  all_goals with_reducible rfl
 go_simp
 refine tX 9 rfl hS ?_
 refine tK 10 (v:=?_) rfl ?_ hS ?_
 rotate_left
 ·intro W hSW
  obtain ⟨x0,x1,x2,x3,x4,x5,x6,x7,x8,x9,x10,x11⟩:=hSW.op.cells
  go_simp
  all_goals with_reducible rfl
 refine tX 12 rfl hS ?_
 refine tK 13 (v:=?_) rfl ?_ hS ?_
 rotate_left
 ·intro W hSW
  obtain ⟨x0,x1,x2,x3,x4,x5,x6,x7,x8,x9,x10,x11⟩:=hSW.op.cells
  go_simp
  all_goals with_reducible rfl
 go_simp
 refine tX 14 rfl hS ?_
 refine tK 15 (v:=?_) rfl ?_ hS ?_
 rotate_left
 ·intro W hSW
  obtain ⟨x0,x1,x2,x3,x4,x5,x6,x7,x8,x9,x10,x11⟩:=hSW.op.cells
  go_simp
  all_goals with_reducible rfl
 refine tX 16 rfl hS ?_
 refine tK 17 (v:=?_) rfl ?_ hS ?_
 rotate_left
 ·intro W hSW
  obtain ⟨x0,x1,x2,x3,x4,x5,x6,x7,x8,x9,x10,x11⟩:=hSW.op.cells
  go_simp
  all_goals with_reducible rfl
 go_simp
 refine rD 8 rfl (fun K hK=>?_)
 go_simp
 refine hK.out _ _ (hS.kept ((Below.refl _ _).alloc (Nat.le_refl _) _)) (fun hS=>?_)
 clear hK K
 refine rD 11 rfl (fun K hK=>?_)
 refine step_append_kL (by kernel_rfl) _ _ 36 rfl W0.heap.size 35 i0 _ 2 16 Tryz.underlying36 hi hz0 hz1 (by decide) hz2 (by decide) rfl _ 0 [] rfl (World.ownsRow_lit (base:=W0.heap.size) (e:=35) (size:=2) W0 #[] 0 (Nat.le_refl _) (by simp [maxLen]) (by simp)) _ x.path.length c (stCells x.path) rfl (by rw [stCells_length]) hS.paw.rd hS.pa.nil stCells_one (by omega) (by simp) ?_
 intro p2 c2 w2 ho2 hg2
 rw [Nat.zero_add,List.nil_append] at ho2
 have HS2:=Hi (HS0.out.kept (Below.grown ((Below.refl W0.heap.size W0).alloc (Nat.le_refl _) (.cells #[] 35)) hg2 (by simp) (fun k hk=>by cases hk; exact Nat.le_refl _)))
 have HO2:=Hi (show OwnP w2 W0.heap.size (.slice p2 x.path.length c2) x.path from ho2)
 have HNW:=Hi (show ∀ a,p2=some a→w.heap.size≤a.block from by
  obtain ⟨p',c',e,-,-,-,-,h4⟩:=own_rd HO2.out
  cases e
  intro a ha
  have:=(h4 a ha).1
  have:=HS0.out.below.size
  omega)
 clear ho2 hg2
 refine hK.out _ _ HS2.out (fun hS=>?_)
 clear hK K hS
 rw [Nat.zero_add]
 refine wpAnyH_take (i:=18) (v:=?_) rfl (by kernel_rfl) (by kernel_rfl) (by kernel_rfl) (fun _ _ _ h=>h) (Or.inl ⟨by kernel_rfl,?_⟩) HS2.out ?_
 rotate_left
 ·intro W hSW
  go_simp
  all_goals with_reducible rfl
 obtain ⟨A,TT,hA,hAs⟩:=HS2.out.res
 go_simp
 refine rD 19 rfl (fun K hK=>?_)
 refine step_store_op otP (by kernel_rfl) _ _ rfl (w.heap.size+1) rfl TT A hA hAs x p2 c2 rfl ?_
 intro w3 hv3 hko hsz hbn
 have HS3:=Hi (HS2.out.stored hv3 hko hbn)
 have HP3:=Hi (HO2.out.paStored HS0.out.lt hko)
 clear hko hsz hbn
 refine hK.out _ _ HS3.out (fun hS=>?_)
 clear hK K hS
 refine wpAnyH_done (by kernel_rfl) ?_ _
 go_simp
 go_wp2
 exact bodyPost_ret (results_op otP _ rfl hv3 rfl) rfl ⟨p2,c2,rfl,HP3.out,HS3.out.below,HNW.out⟩
end Go.Proofs.YthfhefdfehlbkaaGreat
