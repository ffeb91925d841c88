/-
  fit: may each part that is named be, of each kind.
  No conditions but sizes.
  alone: is each part that is not named zero, of each kind.
  No conditions but sizes.
  Right: may an op be.
  No conditions but sizes.
-/
import Derived.Test.YtfgnmnkihbgjnaaGreatSh
import Derived.Test.YtfgnmnkihbgjnaaGreatGD
set_option maxRecDepth 100000
set_option maxHeartbeats 4000000
namespace Go.Proofs.YtfgnmnkihbgjnaaGreat
open Go.RowKit
theorem okey_any (k:ByteArray) (w:World) (h:k.size≤140737488355328):Calls Tryz.prog 121 #[.string k] w fun e w'=>e=.returned (.bool (Km.rightB k.data.toList))∧Below w.heap.size w w' :=
 (kright_any k w h).mono fun e w' ⟨h1,h2⟩=>⟨h1,by rw [h2]; exact Below.refl _ _⟩
structure Sz (x:Opp):Prop where
 key:x.key.size≤140737488355328
 val:x.vt.size≤4611686018427387904
 path:x.path.length≤4611686018427387904
theorem fit_start (w:World) (p:Prt) (A:Array Value) (hA:A=prA p) (x:Opp) (q:Option Addr) (c:Nat) (ha:Pa w x q c) :
  Hid (PrAt ((w.alloc (.cells A 156)).alloc (.cells (opA x q c) 55)) w.heap.size p)∧Hid (OpAt ((w.alloc (.cells A 156)).alloc (.cells (opA x q c) 55)) (w.heap.size+1) x q c) ∧
  Hid (Pa ((w.alloc (.cells A 156)).alloc (.cells (opA x q c) 55)) x q c)∧Hid (Below w.heap.size w ((w.alloc (.cells A 156)).alloc (.cells (opA x q c) 55))):=by
 subst hA
 have h1:∀ (w:World) (o:Obj),Below w.heap.size w (w.alloc o):=fun w o=>(Below.refl _ _).alloc (Nat.le_refl _) _
 have e1:(w.alloc (.cells (prA p) 156)).heap.size=w.heap.size+1:=by simp
 have k:=OpAt.new (w.alloc (.cells (prA p) 156)) x q c 55
 rw [e1] at k
 exact ⟨Hi ((PrAt.new w p _).kept (h1 _ _)),Hi k,Hi ((ha.kept (h1 _ _)).kept (h1 _ _)),Hi ((h1 _ _).trans ((h1 _ _).mono (by simp)))⟩
theorem fit1_any (x:Opp) (q:Option Addr) (c:Nat) (w:World) (hs:Sz x) (ha:Pa w x q c):Calls Tryz.prog 105 #[.agg #[.bool false,.bool true,.bool false,.bool false,.bool false,.bool false],.agg (opA x q c)] w fun e w'=>e=.returned (.bool (fitO ⟨false,true,false,false,false,false⟩ x))∧Below w.heap.size w w':=by
 obtain ⟨HP,HX,HA,HB⟩:=fit_start w ⟨false,true,false,false,false,false⟩ #[.bool false,.bool true,.bool false,.bool false,.bool false,.bool false] rfl x q c ha
 cases e_place:okPlace x.rt x.rr with
 | false =>
  have HR:=Hi (show fitO ⟨false,true,false,false,false,false⟩ x=false by simp [fitO,e_place])
  have E_place:=Hi e_place
  clear e_place
  obtain ⟨p0,p1,p2,p3,p4,p5⟩:=HP.out.cells
  obtain ⟨x0,x1,x2,x3,x4,x5,x6,x7,x8,x9,x10,x11⟩:=HX.out.cells
  dsimp only at p0 p1 p2 p3 p4 p5
  go_enter Tryz.func105,Tryz.ntmps105
  go_wp2_with fail
  refine (oplace_any x.rt x.rr _).mono ?_
  rw [E_place.out]
  rintro e w1 ⟨rfl,hb1⟩
  replace HB:=Hi (HB.out.trans (hb1.mono HB.out.size))
  replace HP:=Hi (HP.out.kept hb1)
  replace HX:=Hi (HX.out.kept hb1)
  replace HA:=Hi (HA.out.kept hb1)
  clear hb1
  obtain ⟨p0,p1,p2,p3,p4,p5⟩:=HP.out.cells
  obtain ⟨x0,x1,x2,x3,x4,x5,x6,x7,x8,x9,x10,x11⟩:=HX.out.cells
  dsimp only at p0 p1 p2 p3 p4 p5
  go_wp2
  go_ret
  exact ⟨ret_b HR.out.symm,HB.out⟩
 | true =>
  cases e_key:Km.rightB x.key.data.toList with
  | false =>
   have HR:=Hi (show fitO ⟨false,true,false,false,false,false⟩ x=false by simp [fitO,e_place,e_key])
   have E_place:=Hi e_place
   clear e_place
   have E_key:=Hi e_key
   clear e_key
   obtain ⟨p0,p1,p2,p3,p4,p5⟩:=HP.out.cells
   obtain ⟨x0,x1,x2,x3,x4,x5,x6,x7,x8,x9,x10,x11⟩:=HX.out.cells
   dsimp only at p0 p1 p2 p3 p4 p5
   go_enter Tryz.func105,Tryz.ntmps105
   go_wp2_with fail
   refine (oplace_any x.rt x.rr _).mono ?_
   rw [E_place.out]
   rintro e w1 ⟨rfl,hb1⟩
   replace HB:=Hi (HB.out.trans (hb1.mono HB.out.size))
   replace HP:=Hi (HP.out.kept hb1)
   replace HX:=Hi (HX.out.kept hb1)
   replace HA:=Hi (HA.out.kept hb1)
   clear hb1
   obtain ⟨p0,p1,p2,p3,p4,p5⟩:=HP.out.cells
   obtain ⟨x0,x1,x2,x3,x4,x5,x6,x7,x8,x9,x10,x11⟩:=HX.out.cells
   dsimp only at p0 p1 p2 p3 p4 p5
   go_wp2_with fail
   refine (okey_any x.key _ hs.key).mono ?_
   rw [E_key.out]
   rintro e w1 ⟨rfl,hb1⟩
   replace HB:=Hi (HB.out.trans (hb1.mono HB.out.size))
   replace HP:=Hi (HP.out.kept hb1)
   replace HX:=Hi (HX.out.kept hb1)
   replace HA:=Hi (HA.out.kept hb1)
   clear hb1
   obtain ⟨p0,p1,p2,p3,p4,p5⟩:=HP.out.cells
   obtain ⟨x0,x1,x2,x3,x4,x5,x6,x7,x8,x9,x10,x11⟩:=HX.out.cells
   dsimp only at p0 p1 p2 p3 p4 p5
   go_wp2
   go_ret
   exact ⟨ret_b HR.out.symm,HB.out⟩
  | true =>
   have HR:=Hi (show fitO ⟨false,true,false,false,false,false⟩ x=true by simp [fitO,e_place,e_key])
   have E_place:=Hi e_place
   clear e_place
   have E_key:=Hi e_key
   clear e_key
   obtain ⟨p0,p1,p2,p3,p4,p5⟩:=HP.out.cells
   obtain ⟨x0,x1,x2,x3,x4,x5,x6,x7,x8,x9,x10,x11⟩:=HX.out.cells
   dsimp only at p0 p1 p2 p3 p4 p5
   go_enter Tryz.func105,Tryz.ntmps105
   go_wp2_with fail
   refine (oplace_any x.rt x.rr _).mono ?_
   rw [E_place.out]
   rintro e w1 ⟨rfl,hb1⟩
   replace HB:=Hi (HB.out.trans (hb1.mono HB.out.size))
   replace HP:=Hi (HP.out.kept hb1)
   replace HX:=Hi (HX.out.kept hb1)
   replace HA:=Hi (HA.out.kept hb1)
   clear hb1
   obtain ⟨p0,p1,p2,p3,p4,p5⟩:=HP.out.cells
   obtain ⟨x0,x1,x2,x3,x4,x5,x6,x7,x8,x9,x10,x11⟩:=HX.out.cells
   dsimp only at p0 p1 p2 p3 p4 p5
   go_wp2_with fail
   refine (okey_any x.key _ hs.key).mono ?_
   rw [E_key.out]
   rintro e w1 ⟨rfl,hb1⟩
   replace HB:=Hi (HB.out.trans (hb1.mono HB.out.size))
   replace HP:=Hi (HP.out.kept hb1)
   replace HX:=Hi (HX.out.kept hb1)
   replace HA:=Hi (HA.out.kept hb1)
   clear hb1
   obtain ⟨p0,p1,p2,p3,p4,p5⟩:=HP.out.cells
   obtain ⟨x0,x1,x2,x3,x4,x5,x6,x7,x8,x9,x10,x11⟩:=HX.out.cells
   dsimp only at p0 p1 p2 p3 p4 p5
   go_wp2
   go_ret
   exact ⟨ret_b HR.out.symm,HB.out⟩
theorem fit2_any (x:Opp) (q:Option Addr) (c:Nat) (w:World) (hs:Sz x) (ha:Pa w x q c):Calls Tryz.prog 105 #[.agg #[.bool true,.bool true,.bool false,.bool false,.bool false,.bool false],.agg (opA x q c)] w fun e w'=>e=.returned (.bool (fitO ⟨true,true,false,false,false,false⟩ x))∧Below w.heap.size w w':=by
 obtain ⟨HP,HX,HA,HB⟩:=fit_start w ⟨true,true,false,false,false,false⟩ #[.bool true,.bool true,.bool false,.bool false,.bool false,.bool false] rfl x q c ha
 cases e_node:okNode x.nt x.nr with
 | false =>
  have HR:=Hi (show fitO ⟨true,true,false,false,false,false⟩ x=false by simp [fitO,e_node])
  have E_node:=Hi e_node
  clear e_node
  obtain ⟨p0,p1,p2,p3,p4,p5⟩:=HP.out.cells
  obtain ⟨x0,x1,x2,x3,x4,x5,x6,x7,x8,x9,x10,x11⟩:=HX.out.cells
  dsimp only at p0 p1 p2 p3 p4 p5
  go_enter Tryz.func105,Tryz.ntmps105
  go_wp2_with fail
  refine (onode_any x.nt x.nr _).mono ?_
  rw [E_node.out]
  rintro e w1 ⟨rfl,hb1⟩
  replace HB:=Hi (HB.out.trans (hb1.mono HB.out.size))
  replace HP:=Hi (HP.out.kept hb1)
  replace HX:=Hi (HX.out.kept hb1)
  replace HA:=Hi (HA.out.kept hb1)
  clear hb1
  obtain ⟨p0,p1,p2,p3,p4,p5⟩:=HP.out.cells
  obtain ⟨x0,x1,x2,x3,x4,x5,x6,x7,x8,x9,x10,x11⟩:=HX.out.cells
  dsimp only at p0 p1 p2 p3 p4 p5
  go_wp2
  go_ret
  exact ⟨ret_b HR.out.symm,HB.out⟩
 | true =>
  cases e_place:okPlace x.rt x.rr with
  | false =>
   have HR:=Hi (show fitO ⟨true,true,false,false,false,false⟩ x=false by simp [fitO,e_node,e_place])
   have E_node:=Hi e_node
   clear e_node
   have E_place:=Hi e_place
   clear e_place
   obtain ⟨p0,p1,p2,p3,p4,p5⟩:=HP.out.cells
   obtain ⟨x0,x1,x2,x3,x4,x5,x6,x7,x8,x9,x10,x11⟩:=HX.out.cells
   dsimp only at p0 p1 p2 p3 p4 p5
   go_enter Tryz.func105,Tryz.ntmps105
   go_wp2_with fail
   refine (onode_any x.nt x.nr _).mono ?_
   rw [E_node.out]
   rintro e w1 ⟨rfl,hb1⟩
   replace HB:=Hi (HB.out.trans (hb1.mono HB.out.size))
   replace HP:=Hi (HP.out.kept hb1)
   replace HX:=Hi (HX.out.kept hb1)
   replace HA:=Hi (HA.out.kept hb1)
   clear hb1
   obtain ⟨p0,p1,p2,p3,p4,p5⟩:=HP.out.cells
   obtain ⟨x0,x1,x2,x3,x4,x5,x6,x7,x8,x9,x10,x11⟩:=HX.out.cells
   dsimp only at p0 p1 p2 p3 p4 p5
   go_wp2_with fail
   refine (oplace_any x.rt x.rr _).mono ?_
   rw [E_place.out]
   rintro e w1 ⟨rfl,hb1⟩
   replace HB:=Hi (HB.out.trans (hb1.mono HB.out.size))
   replace HP:=Hi (HP.out.kept hb1)
   replace HX:=Hi (HX.out.kept hb1)
   replace HA:=Hi (HA.out.kept hb1)
   clear hb1
   obtain ⟨p0,p1,p2,p3,p4,p5⟩:=HP.out.cells
   obtain ⟨x0,x1,x2,x3,x4,x5,x6,x7,x8,x9,x10,x11⟩:=HX.out.cells
   dsimp only at p0 p1 p2 p3 p4 p5
   go_wp2
   go_ret
   exact ⟨ret_b HR.out.symm,HB.out⟩
  | true =>
   cases e_key:Km.rightB x.key.data.toList with
   | false =>
    have HR:=Hi (show fitO ⟨true,true,false,false,false,false⟩ x=false by simp [fitO,e_node,e_place,e_key])
    have E_node:=Hi e_node
    clear e_node
    have E_place:=Hi e_place
    clear e_place
    have E_key:=Hi e_key
    clear e_key
    obtain ⟨p0,p1,p2,p3,p4,p5⟩:=HP.out.cells
    obtain ⟨x0,x1,x2,x3,x4,x5,x6,x7,x8,x9,x10,x11⟩:=HX.out.cells
    dsimp only at p0 p1 p2 p3 p4 p5
    go_enter Tryz.func105,Tryz.ntmps105
    go_wp2_with fail
    refine (onode_any x.nt x.nr _).mono ?_
    rw [E_node.out]
    rintro e w1 ⟨rfl,hb1⟩
    replace HB:=Hi (HB.out.trans (hb1.mono HB.out.size))
    replace HP:=Hi (HP.out.kept hb1)
    replace HX:=Hi (HX.out.kept hb1)
    replace HA:=Hi (HA.out.kept hb1)
    clear hb1
    obtain ⟨p0,p1,p2,p3,p4,p5⟩:=HP.out.cells
    obtain ⟨x0,x1,x2,x3,x4,x5,x6,x7,x8,x9,x10,x11⟩:=HX.out.cells
    dsimp only at p0 p1 p2 p3 p4 p5
    go_wp2_with fail
    refine (oplace_any x.rt x.rr _).mono ?_
    rw [E_place.out]
    rintro e w1 ⟨rfl,hb1⟩
    replace HB:=Hi (HB.out.trans (hb1.mono HB.out.size))
    replace HP:=Hi (HP.out.kept hb1)
    replace HX:=Hi (HX.out.kept hb1)
    replace HA:=Hi (HA.out.kept hb1)
    clear hb1
    obtain ⟨p0,p1,p2,p3,p4,p5⟩:=HP.out.cells
    obtain ⟨x0,x1,x2,x3,x4,x5,x6,x7,x8,x9,x10,x11⟩:=HX.out.cells
    dsimp only at p0 p1 p2 p3 p4 p5
    go_wp2_with fail
    refine (okey_any x.key _ hs.key).mono ?_
    rw [E_key.out]
    rintro e w1 ⟨rfl,hb1⟩
    replace HB:=Hi (HB.out.trans (hb1.mono HB.out.size))
    replace HP:=Hi (HP.out.kept hb1)
    replace HX:=Hi (HX.out.kept hb1)
    replace HA:=Hi (HA.out.kept hb1)
    clear hb1
    obtain ⟨p0,p1,p2,p3,p4,p5⟩:=HP.out.cells
    obtain ⟨x0,x1,x2,x3,x4,x5,x6,x7,x8,x9,x10,x11⟩:=HX.out.cells
    dsimp only at p0 p1 p2 p3 p4 p5
    go_wp2
    go_ret
    exact ⟨ret_b HR.out.symm,HB.out⟩
   | true =>
    have HR:=Hi (show fitO ⟨true,true,false,false,false,false⟩ x=true by simp [fitO,e_node,e_place,e_key])
    have E_node:=Hi e_node
    clear e_node
    have E_place:=Hi e_place
    clear e_place
    have E_key:=Hi e_key
    clear e_key
    obtain ⟨p0,p1,p2,p3,p4,p5⟩:=HP.out.cells
    obtain ⟨x0,x1,x2,x3,x4,x5,x6,x7,x8,x9,x10,x11⟩:=HX.out.cells
    dsimp only at p0 p1 p2 p3 p4 p5
    go_enter Tryz.func105,Tryz.ntmps105
    go_wp2_with fail
    refine (onode_any x.nt x.nr _).mono ?_
    rw [E_node.out]
    rintro e w1 ⟨rfl,hb1⟩
    replace HB:=Hi (HB.out.trans (hb1.mono HB.out.size))
    replace HP:=Hi (HP.out.kept hb1)
    replace HX:=Hi (HX.out.kept hb1)
    replace HA:=Hi (HA.out.kept hb1)
    clear hb1
    obtain ⟨p0,p1,p2,p3,p4,p5⟩:=HP.out.cells
    obtain ⟨x0,x1,x2,x3,x4,x5,x6,x7,x8,x9,x10,x11⟩:=HX.out.cells
    dsimp only at p0 p1 p2 p3 p4 p5
    go_wp2_with fail
    refine (oplace_any x.rt x.rr _).mono ?_
    rw [E_place.out]
    rintro e w1 ⟨rfl,hb1⟩
    replace HB:=Hi (HB.out.trans (hb1.mono HB.out.size))
    replace HP:=Hi (HP.out.kept hb1)
    replace HX:=Hi (HX.out.kept hb1)
    replace HA:=Hi (HA.out.kept hb1)
    clear hb1
    obtain ⟨p0,p1,p2,p3,p4,p5⟩:=HP.out.cells
    obtain ⟨x0,x1,x2,x3,x4,x5,x6,x7,x8,x9,x10,x11⟩:=HX.out.cells
    dsimp only at p0 p1 p2 p3 p4 p5
    go_wp2_with fail
    refine (okey_any x.key _ hs.key).mono ?_
    rw [E_key.out]
    rintro e w1 ⟨rfl,hb1⟩
    replace HB:=Hi (HB.out.trans (hb1.mono HB.out.size))
    replace HP:=Hi (HP.out.kept hb1)
    replace HX:=Hi (HX.out.kept hb1)
    replace HA:=Hi (HA.out.kept hb1)
    clear hb1
    obtain ⟨p0,p1,p2,p3,p4,p5⟩:=HP.out.cells
    obtain ⟨x0,x1,x2,x3,x4,x5,x6,x7,x8,x9,x10,x11⟩:=HX.out.cells
    dsimp only at p0 p1 p2 p3 p4 p5
    go_wp2
    go_ret
    exact ⟨ret_b HR.out.symm,HB.out⟩
theorem fit3_any (x:Opp) (q:Option Addr) (c:Nat) (w:World) (hs:Sz x) (ha:Pa w x q c):Calls Tryz.prog 105 #[.agg #[.bool true,.bool false,.bool false,.bool false,.bool true,.bool false],.agg (opA x q c)] w fun e w'=>e=.returned (.bool (fitO ⟨true,false,false,false,true,false⟩ x))∧Below w.heap.size w w':=by
 obtain ⟨HP,HX,HA,HB⟩:=fit_start w ⟨true,false,false,false,true,false⟩ #[.bool true,.bool false,.bool false,.bool false,.bool true,.bool false] rfl x q c ha
 cases e_node:okNode x.nt x.nr with
 | false =>
  have HR:=Hi (show fitO ⟨true,false,false,false,true,false⟩ x=false by simp [fitO,e_node])
  have E_node:=Hi e_node
  clear e_node
  obtain ⟨p0,p1,p2,p3,p4,p5⟩:=HP.out.cells
  obtain ⟨x0,x1,x2,x3,x4,x5,x6,x7,x8,x9,x10,x11⟩:=HX.out.cells
  dsimp only at p0 p1 p2 p3 p4 p5
  go_enter Tryz.func105,Tryz.ntmps105
  go_wp2_with fail
  refine (onode_any x.nt x.nr _).mono ?_
  rw [E_node.out]
  rintro e w1 ⟨rfl,hb1⟩
  replace HB:=Hi (HB.out.trans (hb1.mono HB.out.size))
  replace HP:=Hi (HP.out.kept hb1)
  replace HX:=Hi (HX.out.kept hb1)
  replace HA:=Hi (HA.out.kept hb1)
  clear hb1
  obtain ⟨p0,p1,p2,p3,p4,p5⟩:=HP.out.cells
  obtain ⟨x0,x1,x2,x3,x4,x5,x6,x7,x8,x9,x10,x11⟩:=HX.out.cells
  dsimp only at p0 p1 p2 p3 p4 p5
  go_wp2
  go_ret
  exact ⟨ret_b HR.out.symm,HB.out⟩
 | true =>
  cases e_value:right8V x.p x.vk x.vn x.vt.data.toList with
  | false =>
   have HR:=Hi (show fitO ⟨true,false,false,false,true,false⟩ x=false by simp [fitO,e_node,e_value])
   have E_node:=Hi e_node
   clear e_node
   have E_value:=Hi e_value
   clear e_value
   obtain ⟨p0,p1,p2,p3,p4,p5⟩:=HP.out.cells
   obtain ⟨x0,x1,x2,x3,x4,x5,x6,x7,x8,x9,x10,x11⟩:=HX.out.cells
   dsimp only at p0 p1 p2 p3 p4 p5
   go_enter Tryz.func105,Tryz.ntmps105
   go_wp2_with fail
   refine (onode_any x.nt x.nr _).mono ?_
   rw [E_node.out]
   rintro e w1 ⟨rfl,hb1⟩
   replace HB:=Hi (HB.out.trans (hb1.mono HB.out.size))
   replace HP:=Hi (HP.out.kept hb1)
   replace HX:=Hi (HX.out.kept hb1)
   replace HA:=Hi (HA.out.kept hb1)
   clear hb1
   obtain ⟨p0,p1,p2,p3,p4,p5⟩:=HP.out.cells
   obtain ⟨x0,x1,x2,x3,x4,x5,x6,x7,x8,x9,x10,x11⟩:=HX.out.cells
   dsimp only at p0 p1 p2 p3 p4 p5
   go_wp2_with fail
   refine (vright8_any x.p x.vk x.vn x.vt _ hs.val).mono ?_
   rw [E_value.out]
   rintro e w1 ⟨rfl,hb1⟩
   replace HB:=Hi (HB.out.trans (hb1.mono HB.out.size))
   replace HP:=Hi (HP.out.kept hb1)
   replace HX:=Hi (HX.out.kept hb1)
   replace HA:=Hi (HA.out.kept hb1)
   clear hb1
   obtain ⟨p0,p1,p2,p3,p4,p5⟩:=HP.out.cells
   obtain ⟨x0,x1,x2,x3,x4,x5,x6,x7,x8,x9,x10,x11⟩:=HX.out.cells
   dsimp only at p0 p1 p2 p3 p4 p5
   go_wp2
   go_ret
   exact ⟨ret_b HR.out.symm,HB.out⟩
  | true =>
   have HR:=Hi (show fitO ⟨true,false,false,false,true,false⟩ x=true by simp [fitO,e_node,e_value])
   have E_node:=Hi e_node
   clear e_node
   have E_value:=Hi e_value
   clear e_value
   obtain ⟨p0,p1,p2,p3,p4,p5⟩:=HP.out.cells
   obtain ⟨x0,x1,x2,x3,x4,x5,x6,x7,x8,x9,x10,x11⟩:=HX.out.cells
   dsimp only at p0 p1 p2 p3 p4 p5
   go_enter Tryz.func105,Tryz.ntmps105
   go_wp2_with fail
   refine (onode_any x.nt x.nr _).mono ?_
   rw [E_node.out]
   rintro e w1 ⟨rfl,hb1⟩
   replace HB:=Hi (HB.out.trans (hb1.mono HB.out.size))
   replace HP:=Hi (HP.out.kept hb1)
   replace HX:=Hi (HX.out.kept hb1)
   replace HA:=Hi (HA.out.kept hb1)
   clear hb1
   obtain ⟨p0,p1,p2,p3,p4,p5⟩:=HP.out.cells
   obtain ⟨x0,x1,x2,x3,x4,x5,x6,x7,x8,x9,x10,x11⟩:=HX.out.cells
   dsimp only at p0 p1 p2 p3 p4 p5
   go_wp2_with fail
   refine (vright8_any x.p x.vk x.vn x.vt _ hs.val).mono ?_
   rw [E_value.out]
   rintro e w1 ⟨rfl,hb1⟩
   replace HB:=Hi (HB.out.trans (hb1.mono HB.out.size))
   replace HP:=Hi (HP.out.kept hb1)
   replace HX:=Hi (HX.out.kept hb1)
   replace HA:=Hi (HA.out.kept hb1)
   clear hb1
   obtain ⟨p0,p1,p2,p3,p4,p5⟩:=HP.out.cells
   obtain ⟨x0,x1,x2,x3,x4,x5,x6,x7,x8,x9,x10,x11⟩:=HX.out.cells
   dsimp only at p0 p1 p2 p3 p4 p5
   go_wp2
   go_ret
   exact ⟨ret_b HR.out.symm,HB.out⟩
theorem fit4_any (x:Opp) (q:Option Addr) (c:Nat) (w:World) (_:Sz x) (ha:Pa w x q c):Calls Tryz.prog 105 #[.agg #[.bool true,.bool false,.bool false,.bool false,.bool false,.bool true],.agg (opA x q c)] w fun e w'=>e=.returned (.bool (fitO ⟨true,false,false,false,false,true⟩ x))∧Below w.heap.size w w':=by
 obtain ⟨HP,HX,HA,HB⟩:=fit_start w ⟨true,false,false,false,false,true⟩ #[.bool true,.bool false,.bool false,.bool false,.bool false,.bool true] rfl x q c ha
 cases e_node:okNode x.nt x.nr with
 | false =>
  have HR:=Hi (show fitO ⟨true,false,false,false,false,true⟩ x=false by simp [fitO,e_node])
  have E_node:=Hi e_node
  clear e_node
  obtain ⟨p0,p1,p2,p3,p4,p5⟩:=HP.out.cells
  obtain ⟨x0,x1,x2,x3,x4,x5,x6,x7,x8,x9,x10,x11⟩:=HX.out.cells
  dsimp only at p0 p1 p2 p3 p4 p5
  go_enter Tryz.func105,Tryz.ntmps105
  go_wp2_with fail
  refine (onode_any x.nt x.nr _).mono ?_
  rw [E_node.out]
  rintro e w1 ⟨rfl,hb1⟩
  replace HB:=Hi (HB.out.trans (hb1.mono HB.out.size))
  replace HP:=Hi (HP.out.kept hb1)
  replace HX:=Hi (HX.out.kept hb1)
  replace HA:=Hi (HA.out.kept hb1)
  clear hb1
  obtain ⟨p0,p1,p2,p3,p4,p5⟩:=HP.out.cells
  obtain ⟨x0,x1,x2,x3,x4,x5,x6,x7,x8,x9,x10,x11⟩:=HX.out.cells
  dsimp only at p0 p1 p2 p3 p4 p5
  go_wp2
  go_ret
  exact ⟨ret_b HR.out.symm,HB.out⟩
 | true =>
  have HR:=Hi (show fitO ⟨true,false,false,false,false,true⟩ x=true by simp [fitO,e_node])
  have E_node:=Hi e_node
  clear e_node
  obtain ⟨p0,p1,p2,p3,p4,p5⟩:=HP.out.cells
  obtain ⟨x0,x1,x2,x3,x4,x5,x6,x7,x8,x9,x10,x11⟩:=HX.out.cells
  dsimp only at p0 p1 p2 p3 p4 p5
  go_enter Tryz.func105,Tryz.ntmps105
  go_wp2_with fail
  refine (onode_any x.nt x.nr _).mono ?_
  rw [E_node.out]
  rintro e w1 ⟨rfl,hb1⟩
  replace HB:=Hi (HB.out.trans (hb1.mono HB.out.size))
  replace HP:=Hi (HP.out.kept hb1)
  replace HX:=Hi (HX.out.kept hb1)
  replace HA:=Hi (HA.out.kept hb1)
  clear hb1
  obtain ⟨p0,p1,p2,p3,p4,p5⟩:=HP.out.cells
  obtain ⟨x0,x1,x2,x3,x4,x5,x6,x7,x8,x9,x10,x11⟩:=HX.out.cells
  dsimp only at p0 p1 p2 p3 p4 p5
  go_wp2
  go_ret
  exact ⟨ret_b HR.out.symm,HB.out⟩
theorem fit5_any (x:Opp) (q:Option Addr) (c:Nat) (w:World) (_:Sz x) (ha:Pa w x q c):Calls Tryz.prog 105 #[.agg #[.bool true,.bool false,.bool true,.bool false,.bool false,.bool false],.agg (opA x q c)] w fun e w'=>e=.returned (.bool (fitO ⟨true,false,true,false,false,false⟩ x))∧Below w.heap.size w w':=by
 obtain ⟨HP,HX,HA,HB⟩:=fit_start w ⟨true,false,true,false,false,false⟩ #[.bool true,.bool false,.bool true,.bool false,.bool false,.bool false] rfl x q c ha
 cases e_node:okNode x.nt x.nr with
 | false =>
  have HR:=Hi (show fitO ⟨true,false,true,false,false,false⟩ x=false by simp [fitO,e_node])
  have E_node:=Hi e_node
  clear e_node
  obtain ⟨p0,p1,p2,p3,p4,p5⟩:=HP.out.cells
  obtain ⟨x0,x1,x2,x3,x4,x5,x6,x7,x8,x9,x10,x11⟩:=HX.out.cells
  dsimp only at p0 p1 p2 p3 p4 p5
  go_enter Tryz.func105,Tryz.ntmps105
  go_wp2_with fail
  refine (onode_any x.nt x.nr _).mono ?_
  rw [E_node.out]
  rintro e w1 ⟨rfl,hb1⟩
  replace HB:=Hi (HB.out.trans (hb1.mono HB.out.size))
  replace HP:=Hi (HP.out.kept hb1)
  replace HX:=Hi (HX.out.kept hb1)
  replace HA:=Hi (HA.out.kept hb1)
  clear hb1
  obtain ⟨p0,p1,p2,p3,p4,p5⟩:=HP.out.cells
  obtain ⟨x0,x1,x2,x3,x4,x5,x6,x7,x8,x9,x10,x11⟩:=HX.out.cells
  dsimp only at p0 p1 p2 p3 p4 p5
  go_wp2
  go_ret
  exact ⟨ret_b HR.out.symm,HB.out⟩
 | true =>
  cases e_master:okNode x.rt x.rr with
  | false =>
   by_cases hz:x.rt=0
   ·by_cases hy:x.rr=0
    ·have z0:(x.rt == 0)=true:=by simpa using hz
     have z1:(x.rr == 0)=true:=by simpa using hy
     clear hz hy
     have HR:=Hi (show fitO ⟨true,false,true,false,false,false⟩ x=true by simp [fitO,e_master,e_node,isZ,z0,z1])
     have E_node:=Hi e_node
     clear e_node
     have E_master:=Hi e_master
     clear e_master
     obtain ⟨p0,p1,p2,p3,p4,p5⟩:=HP.out.cells
     obtain ⟨x0,x1,x2,x3,x4,x5,x6,x7,x8,x9,x10,x11⟩:=HX.out.cells
     dsimp only at p0 p1 p2 p3 p4 p5
     go_enter Tryz.func105,Tryz.ntmps105
     go_wp2_with fail
     refine (onode_any x.nt x.nr _).mono ?_
     rw [E_node.out]
     rintro e w1 ⟨rfl,hb1⟩
     replace HB:=Hi (HB.out.trans (hb1.mono HB.out.size))
     replace HP:=Hi (HP.out.kept hb1)
     replace HX:=Hi (HX.out.kept hb1)
     replace HA:=Hi (HA.out.kept hb1)
     clear hb1
     obtain ⟨p0,p1,p2,p3,p4,p5⟩:=HP.out.cells
     obtain ⟨x0,x1,x2,x3,x4,x5,x6,x7,x8,x9,x10,x11⟩:=HX.out.cells
     dsimp only at p0 p1 p2 p3 p4 p5
     go_wp2_with fail
     refine (onode_any x.rt x.rr _).mono ?_
     rw [E_master.out]
     rintro e w1 ⟨rfl,hb1⟩
     replace HB:=Hi (HB.out.trans (hb1.mono HB.out.size))
     replace HP:=Hi (HP.out.kept hb1)
     replace HX:=Hi (HX.out.kept hb1)
     replace HA:=Hi (HA.out.kept hb1)
     clear hb1
     obtain ⟨p0,p1,p2,p3,p4,p5⟩:=HP.out.cells
     obtain ⟨x0,x1,x2,x3,x4,x5,x6,x7,x8,x9,x10,x11⟩:=HX.out.cells
     dsimp only at p0 p1 p2 p3 p4 p5
     go_wp2
     go_ret
     exact ⟨ret_b HR.out.symm,HB.out⟩
    ·have z0:(x.rt == 0)=true:=by simpa using hz
     have z1:(x.rr == 0)=false:=by simpa using hy
     clear hz hy
     have HR:=Hi (show fitO ⟨true,false,true,false,false,false⟩ x=false by simp [fitO,e_master,e_node,isZ,z0,z1])
     have E_node:=Hi e_node
     clear e_node
     have E_master:=Hi e_master
     clear e_master
     obtain ⟨p0,p1,p2,p3,p4,p5⟩:=HP.out.cells
     obtain ⟨x0,x1,x2,x3,x4,x5,x6,x7,x8,x9,x10,x11⟩:=HX.out.cells
     dsimp only at p0 p1 p2 p3 p4 p5
     go_enter Tryz.func105,Tryz.ntmps105
     go_wp2_with fail
     refine (onode_any x.nt x.nr _).mono ?_
     rw [E_node.out]
     rintro e w1 ⟨rfl,hb1⟩
     replace HB:=Hi (HB.out.trans (hb1.mono HB.out.size))
     replace HP:=Hi (HP.out.kept hb1)
     replace HX:=Hi (HX.out.kept hb1)
     replace HA:=Hi (HA.out.kept hb1)
     clear hb1
     obtain ⟨p0,p1,p2,p3,p4,p5⟩:=HP.out.cells
     obtain ⟨x0,x1,x2,x3,x4,x5,x6,x7,x8,x9,x10,x11⟩:=HX.out.cells
     dsimp only at p0 p1 p2 p3 p4 p5
     go_wp2_with fail
     refine (onode_any x.rt x.rr _).mono ?_
     rw [E_master.out]
     rintro e w1 ⟨rfl,hb1⟩
     replace HB:=Hi (HB.out.trans (hb1.mono HB.out.size))
     replace HP:=Hi (HP.out.kept hb1)
     replace HX:=Hi (HX.out.kept hb1)
     replace HA:=Hi (HA.out.kept hb1)
     clear hb1
     obtain ⟨p0,p1,p2,p3,p4,p5⟩:=HP.out.cells
     obtain ⟨x0,x1,x2,x3,x4,x5,x6,x7,x8,x9,x10,x11⟩:=HX.out.cells
     dsimp only at p0 p1 p2 p3 p4 p5
     go_wp2
     go_ret
     exact ⟨ret_b HR.out.symm,HB.out⟩
   ·have z0:(x.rt == 0)=false:=by simpa using hz
    clear hz
    have HR:=Hi (show fitO ⟨true,false,true,false,false,false⟩ x=false by simp [fitO,e_master,e_node,isZ,z0])
    have E_node:=Hi e_node
    clear e_node
    have E_master:=Hi e_master
    clear e_master
    obtain ⟨p0,p1,p2,p3,p4,p5⟩:=HP.out.cells
    obtain ⟨x0,x1,x2,x3,x4,x5,x6,x7,x8,x9,x10,x11⟩:=HX.out.cells
    dsimp only at p0 p1 p2 p3 p4 p5
    go_enter Tryz.func105,Tryz.ntmps105
    go_wp2_with fail
    refine (onode_any x.nt x.nr _).mono ?_
    rw [E_node.out]
    rintro e w1 ⟨rfl,hb1⟩
    replace HB:=Hi (HB.out.trans (hb1.mono HB.out.size))
    replace HP:=Hi (HP.out.kept hb1)
    replace HX:=Hi (HX.out.kept hb1)
    replace HA:=Hi (HA.out.kept hb1)
    clear hb1
    obtain ⟨p0,p1,p2,p3,p4,p5⟩:=HP.out.cells
    obtain ⟨x0,x1,x2,x3,x4,x5,x6,x7,x8,x9,x10,x11⟩:=HX.out.cells
    dsimp only at p0 p1 p2 p3 p4 p5
    go_wp2_with fail
    refine (onode_any x.rt x.rr _).mono ?_
    rw [E_master.out]
    rintro e w1 ⟨rfl,hb1⟩
    replace HB:=Hi (HB.out.trans (hb1.mono HB.out.size))
    replace HP:=Hi (HP.out.kept hb1)
    replace HX:=Hi (HX.out.kept hb1)
    replace HA:=Hi (HA.out.kept hb1)
    clear hb1
    obtain ⟨p0,p1,p2,p3,p4,p5⟩:=HP.out.cells
    obtain ⟨x0,x1,x2,x3,x4,x5,x6,x7,x8,x9,x10,x11⟩:=HX.out.cells
    dsimp only at p0 p1 p2 p3 p4 p5
    go_wp2
    go_ret
    exact ⟨ret_b HR.out.symm,HB.out⟩
  | true =>
   have HR:=Hi (show fitO ⟨true,false,true,false,false,false⟩ x=true by simp [fitO,e_node,e_master])
   have E_node:=Hi e_node
   clear e_node
   have E_master:=Hi e_master
   clear e_master
   obtain ⟨p0,p1,p2,p3,p4,p5⟩:=HP.out.cells
   obtain ⟨x0,x1,x2,x3,x4,x5,x6,x7,x8,x9,x10,x11⟩:=HX.out.cells
   dsimp only at p0 p1 p2 p3 p4 p5
   go_enter Tryz.func105,Tryz.ntmps105
   go_wp2_with fail
   refine (onode_any x.nt x.nr _).mono ?_
   rw [E_node.out]
   rintro e w1 ⟨rfl,hb1⟩
   replace HB:=Hi (HB.out.trans (hb1.mono HB.out.size))
   replace HP:=Hi (HP.out.kept hb1)
   replace HX:=Hi (HX.out.kept hb1)
   replace HA:=Hi (HA.out.kept hb1)
   clear hb1
   obtain ⟨p0,p1,p2,p3,p4,p5⟩:=HP.out.cells
   obtain ⟨x0,x1,x2,x3,x4,x5,x6,x7,x8,x9,x10,x11⟩:=HX.out.cells
   dsimp only at p0 p1 p2 p3 p4 p5
   go_wp2_with fail
   refine (onode_any x.rt x.rr _).mono ?_
   rw [E_master.out]
   rintro e w1 ⟨rfl,hb1⟩
   replace HB:=Hi (HB.out.trans (hb1.mono HB.out.size))
   replace HP:=Hi (HP.out.kept hb1)
   replace HX:=Hi (HX.out.kept hb1)
   replace HA:=Hi (HA.out.kept hb1)
   clear hb1
   obtain ⟨p0,p1,p2,p3,p4,p5⟩:=HP.out.cells
   obtain ⟨x0,x1,x2,x3,x4,x5,x6,x7,x8,x9,x10,x11⟩:=HX.out.cells
   dsimp only at p0 p1 p2 p3 p4 p5
   go_wp2
   go_ret
   exact ⟨ret_b HR.out.symm,HB.out⟩
theorem fit6_any (x:Opp) (q:Option Addr) (c:Nat) (w:World) (hs:Sz x) (ha:Pa w x q c):Calls Tryz.prog 105 #[.agg #[.bool true,.bool false,.bool false,.bool true,.bool true,.bool false],.agg (opA x q c)] w fun e w'=>e=.returned (.bool (fitO ⟨true,false,false,true,true,false⟩ x))∧Below w.heap.size w w':=by
 obtain ⟨HP,HX,HA,HB⟩:=fit_start w ⟨true,false,false,true,true,false⟩ #[.bool true,.bool false,.bool false,.bool true,.bool true,.bool false] rfl x q c ha
 cases e_node:okNode x.nt x.nr with
 | false =>
  have HR:=Hi (show fitO ⟨true,false,false,true,true,false⟩ x=false by simp [fitO,e_node])
  have E_node:=Hi e_node
  clear e_node
  obtain ⟨p0,p1,p2,p3,p4,p5⟩:=HP.out.cells
  obtain ⟨x0,x1,x2,x3,x4,x5,x6,x7,x8,x9,x10,x11⟩:=HX.out.cells
  dsimp only at p0 p1 p2 p3 p4 p5
  go_enter Tryz.func105,Tryz.ntmps105
  go_wp2_with fail
  refine (onode_any x.nt x.nr _).mono ?_
  rw [E_node.out]
  rintro e w1 ⟨rfl,hb1⟩
  replace HB:=Hi (HB.out.trans (hb1.mono HB.out.size))
  replace HP:=Hi (HP.out.kept hb1)
  replace HX:=Hi (HX.out.kept hb1)
  replace HA:=Hi (HA.out.kept hb1)
  clear hb1
  obtain ⟨p0,p1,p2,p3,p4,p5⟩:=HP.out.cells
  obtain ⟨x0,x1,x2,x3,x4,x5,x6,x7,x8,x9,x10,x11⟩:=HX.out.cells
  dsimp only at p0 p1 p2 p3 p4 p5
  go_wp2
  go_ret
  exact ⟨ret_b HR.out.symm,HB.out⟩
 | true =>
  cases e_path:okPath x.path with
  | false =>
   have HR:=Hi (show fitO ⟨true,false,false,true,true,false⟩ x=false by simp [fitO,e_node,e_path])
   have E_node:=Hi e_node
   clear e_node
   have E_path:=Hi e_path
   clear e_path
   obtain ⟨p0,p1,p2,p3,p4,p5⟩:=HP.out.cells
   obtain ⟨x0,x1,x2,x3,x4,x5,x6,x7,x8,x9,x10,x11⟩:=HX.out.cells
   dsimp only at p0 p1 p2 p3 p4 p5
   go_enter Tryz.func105,Tryz.ntmps105
   go_wp2_with fail
   refine (onode_any x.nt x.nr _).mono ?_
   rw [E_node.out]
   rintro e w1 ⟨rfl,hb1⟩
   replace HB:=Hi (HB.out.trans (hb1.mono HB.out.size))
   replace HP:=Hi (HP.out.kept hb1)
   replace HX:=Hi (HX.out.kept hb1)
   replace HA:=Hi (HA.out.kept hb1)
   clear hb1
   obtain ⟨p0,p1,p2,p3,p4,p5⟩:=HP.out.cells
   obtain ⟨x0,x1,x2,x3,x4,x5,x6,x7,x8,x9,x10,x11⟩:=HX.out.cells
   dsimp only at p0 p1 p2 p3 p4 p5
   go_wp2_with fail
   refine (isPath_any q c x.path _ HA.out.rd hs.path).mono ?_
   rw [E_path.out]
   rintro e w1 ⟨rfl,hb1⟩
   replace HB:=Hi (HB.out.trans (hb1.mono HB.out.size))
   replace HP:=Hi (HP.out.kept hb1)
   replace HX:=Hi (HX.out.kept hb1)
   replace HA:=Hi (HA.out.kept hb1)
   clear hb1
   obtain ⟨p0,p1,p2,p3,p4,p5⟩:=HP.out.cells
   obtain ⟨x0,x1,x2,x3,x4,x5,x6,x7,x8,x9,x10,x11⟩:=HX.out.cells
   dsimp only at p0 p1 p2 p3 p4 p5
   go_wp2
   go_ret
   exact ⟨ret_b HR.out.symm,HB.out⟩
  | true =>
   cases e_value:right8V x.p x.vk x.vn x.vt.data.toList with
   | false =>
    have HR:=Hi (show fitO ⟨true,false,false,true,true,false⟩ x=false by simp [fitO,e_node,e_path,e_value])
    have E_node:=Hi e_node
    clear e_node
    have E_path:=Hi e_path
    clear e_path
    have E_value:=Hi e_value
    clear e_value
    obtain ⟨p0,p1,p2,p3,p4,p5⟩:=HP.out.cells
    obtain ⟨x0,x1,x2,x3,x4,x5,x6,x7,x8,x9,x10,x11⟩:=HX.out.cells
    dsimp only at p0 p1 p2 p3 p4 p5
    go_enter Tryz.func105,Tryz.ntmps105
    go_wp2_with fail
    refine (onode_any x.nt x.nr _).mono ?_
    rw [E_node.out]
    rintro e w1 ⟨rfl,hb1⟩
    replace HB:=Hi (HB.out.trans (hb1.mono HB.out.size))
    replace HP:=Hi (HP.out.kept hb1)
    replace HX:=Hi (HX.out.kept hb1)
    replace HA:=Hi (HA.out.kept hb1)
    clear hb1
    obtain ⟨p0,p1,p2,p3,p4,p5⟩:=HP.out.cells
    obtain ⟨x0,x1,x2,x3,x4,x5,x6,x7,x8,x9,x10,x11⟩:=HX.out.cells
    dsimp only at p0 p1 p2 p3 p4 p5
    go_wp2_with fail
    refine (isPath_any q c x.path _ HA.out.rd hs.path).mono ?_
    rw [E_path.out]
    rintro e w1 ⟨rfl,hb1⟩
    replace HB:=Hi (HB.out.trans (hb1.mono HB.out.size))
    replace HP:=Hi (HP.out.kept hb1)
    replace HX:=Hi (HX.out.kept hb1)
    replace HA:=Hi (HA.out.kept hb1)
    clear hb1
    obtain ⟨p0,p1,p2,p3,p4,p5⟩:=HP.out.cells
    obtain ⟨x0,x1,x2,x3,x4,x5,x6,x7,x8,x9,x10,x11⟩:=HX.out.cells
    dsimp only at p0 p1 p2 p3 p4 p5
    go_wp2_with fail
    refine (vright8_any x.p x.vk x.vn x.vt _ hs.val).mono ?_
    rw [E_value.out]
    rintro e w1 ⟨rfl,hb1⟩
    replace HB:=Hi (HB.out.trans (hb1.mono HB.out.size))
    replace HP:=Hi (HP.out.kept hb1)
    replace HX:=Hi (HX.out.kept hb1)
    replace HA:=Hi (HA.out.kept hb1)
    clear hb1
    obtain ⟨p0,p1,p2,p3,p4,p5⟩:=HP.out.cells
    obtain ⟨x0,x1,x2,x3,x4,x5,x6,x7,x8,x9,x10,x11⟩:=HX.out.cells
    dsimp only at p0 p1 p2 p3 p4 p5
    go_wp2
    go_ret
    exact ⟨ret_b HR.out.symm,HB.out⟩
   | true =>
    have HR:=Hi (show fitO ⟨true,false,false,true,true,false⟩ x=true by simp [fitO,e_node,e_path,e_value])
    have E_node:=Hi e_node
    clear e_node
    have E_path:=Hi e_path
    clear e_path
    have E_value:=Hi e_value
    clear e_value
    obtain ⟨p0,p1,p2,p3,p4,p5⟩:=HP.out.cells
    obtain ⟨x0,x1,x2,x3,x4,x5,x6,x7,x8,x9,x10,x11⟩:=HX.out.cells
    dsimp only at p0 p1 p2 p3 p4 p5
    go_enter Tryz.func105,Tryz.ntmps105
    go_wp2_with fail
    refine (onode_any x.nt x.nr _).mono ?_
    rw [E_node.out]
    rintro e w1 ⟨rfl,hb1⟩
    replace HB:=Hi (HB.out.trans (hb1.mono HB.out.size))
    replace HP:=Hi (HP.out.kept hb1)
    replace HX:=Hi (HX.out.kept hb1)
    replace HA:=Hi (HA.out.kept hb1)
    clear hb1
    obtain ⟨p0,p1,p2,p3,p4,p5⟩:=HP.out.cells
    obtain ⟨x0,x1,x2,x3,x4,x5,x6,x7,x8,x9,x10,x11⟩:=HX.out.cells
    dsimp only at p0 p1 p2 p3 p4 p5
    go_wp2_with fail
    refine (isPath_any q c x.path _ HA.out.rd hs.path).mono ?_
    rw [E_path.out]
    rintro e w1 ⟨rfl,hb1⟩
    replace HB:=Hi (HB.out.trans (hb1.mono HB.out.size))
    replace HP:=Hi (HP.out.kept hb1)
    replace HX:=Hi (HX.out.kept hb1)
    replace HA:=Hi (HA.out.kept hb1)
    clear hb1
    obtain ⟨p0,p1,p2,p3,p4,p5⟩:=HP.out.cells
    obtain ⟨x0,x1,x2,x3,x4,x5,x6,x7,x8,x9,x10,x11⟩:=HX.out.cells
    dsimp only at p0 p1 p2 p3 p4 p5
    go_wp2_with fail
    refine (vright8_any x.p x.vk x.vn x.vt _ hs.val).mono ?_
    rw [E_value.out]
    rintro e w1 ⟨rfl,hb1⟩
    replace HB:=Hi (HB.out.trans (hb1.mono HB.out.size))
    replace HP:=Hi (HP.out.kept hb1)
    replace HX:=Hi (HX.out.kept hb1)
    replace HA:=Hi (HA.out.kept hb1)
    clear hb1
    obtain ⟨p0,p1,p2,p3,p4,p5⟩:=HP.out.cells
    obtain ⟨x0,x1,x2,x3,x4,x5,x6,x7,x8,x9,x10,x11⟩:=HX.out.cells
    dsimp only at p0 p1 p2 p3 p4 p5
    go_wp2
    go_ret
    exact ⟨ret_b HR.out.symm,HB.out⟩
open Go.RowKit
theorem str_ne {s:ByteArray} (h:¬ s=⟨#[]⟩):s.toList.isEmpty=false:=by
 rw [ByteArray.toList_eq,List.isEmpty_eq_false_iff]
 intro e
 apply h
 obtain ⟨⟨l⟩⟩:=s
 simp at e
 rw [e]
theorem key_eq {x:Opp} (h:x.key=⟨#[]⟩):x.key=⟨#[]⟩:=h
theorem vt_eq {x:Opp} (h:x.vt=⟨#[]⟩):x.vt=⟨#[]⟩:=h
theorem alone1_any (x:Opp) (q:Option Addr) (c:Nat) (w:World) (ha:Pa w x q c):Calls Tryz.prog 106 #[.agg #[.bool false,.bool true,.bool false,.bool false,.bool false,.bool false],.agg (opA x q c)] w fun e w'=>e=.returned (.bool (aloneO ⟨false,true,false,false,false,false⟩ x))∧Below w.heap.size w w':=by
 obtain ⟨HP,HX,HA,HB⟩:=fit_start w ⟨false,true,false,false,false,false⟩ #[.bool false,.bool true,.bool false,.bool false,.bool false,.bool false] rfl x q c ha
 by_cases h_nt:x.nt=0
 ·have z_nt:(x.nt == 0)=true:=by simpa using h_nt
  by_cases h_nr:x.nr=0
  ·have z_nr:(x.nr == 0)=true:=by simpa using h_nr
   by_cases h_path:x.path.length=0
   ·have z_path:((x.path.length:Int) == 0)=true:=by rw [h_path]; rfl
    have y_path:(x.path.length == 0)=true:=by rw [h_path]; rfl
    by_cases h_p:x.p=0
    ·have z_p:(x.p == 0)=true:=by simpa using h_p
     by_cases h_vk:x.vk=0
     ·have z_vk:(x.vk == 0)=true:=by simpa using h_vk
      by_cases h_vn:x.vn=0
      ·have z_vn:(x.vn == 0)=true:=by simpa using h_vn
       by_cases h_vt:x.vt=⟨#[]⟩
       ·have z_vt:=vt_eq h_vt
        have HR:=Hi (show aloneO ⟨false,true,false,false,false,false⟩ x=(!x.on) by simp [aloneO,isZ,isV,z_nt,z_nr,y_path,z_p,z_vk,z_vn,h_vt])
        clear h_nt
        clear h_nr
        clear h_path
        clear h_p
        clear h_vk
        clear h_vn
        clear h_vt
        obtain ⟨p0,p1,p2,p3,p4,p5⟩:=HP.out.cells
        obtain ⟨x0,x1,x2,x3,x4,x5,x6,x7,x8,x9,x10,x11⟩:=HX.out.cells
        dsimp only at p0 p1 p2 p3 p4 p5
        go_enter Tryz.func106,Tryz.ntmps106
        simp only [List.append]
        go_wp2
        go_ret
        exact ⟨ret_b HR.out.symm,HB.out⟩
       ·have z_vt:x.vt.toList.isEmpty=false:=str_ne h_vt
        have HR:=Hi (show aloneO ⟨false,true,false,false,false,false⟩ x=false by simp [aloneO,isZ,isV,z_nt,z_nr,y_path,z_p,z_vk,z_vn,h_vt])
        clear h_nt
        clear h_nr
        clear h_path
        clear h_p
        clear h_vk
        clear h_vn
        clear h_vt
        obtain ⟨p0,p1,p2,p3,p4,p5⟩:=HP.out.cells
        obtain ⟨x0,x1,x2,x3,x4,x5,x6,x7,x8,x9,x10,x11⟩:=HX.out.cells
        dsimp only at p0 p1 p2 p3 p4 p5
        go_enter Tryz.func106,Tryz.ntmps106
        simp only [List.append]
        go_wp2
        go_ret
        exact ⟨ret_b HR.out.symm,HB.out⟩
      ·have z_vn:(x.vn == 0)=false:=by simpa using h_vn
       have HR:=Hi (show aloneO ⟨false,true,false,false,false,false⟩ x=false by simp [aloneO,isZ,isV,z_nt,z_nr,y_path,z_p,z_vk,z_vn])
       clear h_nt
       clear h_nr
       clear h_path
       clear h_p
       clear h_vk
       clear h_vn
       obtain ⟨p0,p1,p2,p3,p4,p5⟩:=HP.out.cells
       obtain ⟨x0,x1,x2,x3,x4,x5,x6,x7,x8,x9,x10,x11⟩:=HX.out.cells
       dsimp only at p0 p1 p2 p3 p4 p5
       go_enter Tryz.func106,Tryz.ntmps106
       simp only [List.append]
       go_wp2
       go_ret
       exact ⟨ret_b HR.out.symm,HB.out⟩
     ·have z_vk:(x.vk == 0)=false:=by simpa using h_vk
      have HR:=Hi (show aloneO ⟨false,true,false,false,false,false⟩ x=false by simp [aloneO,isZ,isV,z_nt,z_nr,y_path,z_p,z_vk])
      clear h_nt
      clear h_nr
      clear h_path
      clear h_p
      clear h_vk
      obtain ⟨p0,p1,p2,p3,p4,p5⟩:=HP.out.cells
      obtain ⟨x0,x1,x2,x3,x4,x5,x6,x7,x8,x9,x10,x11⟩:=HX.out.cells
      dsimp only at p0 p1 p2 p3 p4 p5
      go_enter Tryz.func106,Tryz.ntmps106
      simp only [List.append]
      go_wp2
      go_ret
      exact ⟨ret_b HR.out.symm,HB.out⟩
    ·have z_p:(x.p == 0)=false:=by simpa using h_p
     have HR:=Hi (show aloneO ⟨false,true,false,false,false,false⟩ x=false by simp [aloneO,isZ,isV,z_nt,z_nr,y_path,z_p])
     clear h_nt
     clear h_nr
     clear h_path
     clear h_p
     obtain ⟨p0,p1,p2,p3,p4,p5⟩:=HP.out.cells
     obtain ⟨x0,x1,x2,x3,x4,x5,x6,x7,x8,x9,x10,x11⟩:=HX.out.cells
     dsimp only at p0 p1 p2 p3 p4 p5
     go_enter Tryz.func106,Tryz.ntmps106
     simp only [List.append]
     go_wp2
     go_ret
     exact ⟨ret_b HR.out.symm,HB.out⟩
   ·have z_path:((x.path.length:Int) == 0)=false:=by rw [beq_eq_false_iff_ne]; omega
    have y_path:(x.path.length == 0)=false:=by rw [beq_eq_false_iff_ne]; exact h_path
    have HR:=Hi (show aloneO ⟨false,true,false,false,false,false⟩ x=false by simp [aloneO,isZ,isV,z_nt,z_nr,y_path])
    clear h_nt
    clear h_nr
    clear h_path
    obtain ⟨p0,p1,p2,p3,p4,p5⟩:=HP.out.cells
    obtain ⟨x0,x1,x2,x3,x4,x5,x6,x7,x8,x9,x10,x11⟩:=HX.out.cells
    dsimp only at p0 p1 p2 p3 p4 p5
    go_enter Tryz.func106,Tryz.ntmps106
    simp only [List.append]
    go_wp2
    go_ret
    exact ⟨ret_b HR.out.symm,HB.out⟩
  ·have z_nr:(x.nr == 0)=false:=by simpa using h_nr
   have HR:=Hi (show aloneO ⟨false,true,false,false,false,false⟩ x=false by simp [aloneO,isZ,isV,z_nt,z_nr])
   clear h_nt
   clear h_nr
   obtain ⟨p0,p1,p2,p3,p4,p5⟩:=HP.out.cells
   obtain ⟨x0,x1,x2,x3,x4,x5,x6,x7,x8,x9,x10,x11⟩:=HX.out.cells
   dsimp only at p0 p1 p2 p3 p4 p5
   go_enter Tryz.func106,Tryz.ntmps106
   simp only [List.append]
   go_wp2
   go_ret
   exact ⟨ret_b HR.out.symm,HB.out⟩
 ·have z_nt:(x.nt == 0)=false:=by simpa using h_nt
  have HR:=Hi (show aloneO ⟨false,true,false,false,false,false⟩ x=false by simp [aloneO,isZ,isV,z_nt])
  clear h_nt
  obtain ⟨p0,p1,p2,p3,p4,p5⟩:=HP.out.cells
  obtain ⟨x0,x1,x2,x3,x4,x5,x6,x7,x8,x9,x10,x11⟩:=HX.out.cells
  dsimp only at p0 p1 p2 p3 p4 p5
  go_enter Tryz.func106,Tryz.ntmps106
  simp only [List.append]
  go_wp2
  go_ret
  exact ⟨ret_b HR.out.symm,HB.out⟩
theorem alone2_any (x:Opp) (q:Option Addr) (c:Nat) (w:World) (ha:Pa w x q c):Calls Tryz.prog 106 #[.agg #[.bool true,.bool true,.bool false,.bool false,.bool false,.bool false],.agg (opA x q c)] w fun e w'=>e=.returned (.bool (aloneO ⟨true,true,false,false,false,false⟩ x))∧Below w.heap.size w w':=by
 obtain ⟨HP,HX,HA,HB⟩:=fit_start w ⟨true,true,false,false,false,false⟩ #[.bool true,.bool true,.bool false,.bool false,.bool false,.bool false] rfl x q c ha
 by_cases h_path:x.path.length=0
 ·have z_path:((x.path.length:Int) == 0)=true:=by rw [h_path]; rfl
  have y_path:(x.path.length == 0)=true:=by rw [h_path]; rfl
  by_cases h_p:x.p=0
  ·have z_p:(x.p == 0)=true:=by simpa using h_p
   by_cases h_vk:x.vk=0
   ·have z_vk:(x.vk == 0)=true:=by simpa using h_vk
    by_cases h_vn:x.vn=0
    ·have z_vn:(x.vn == 0)=true:=by simpa using h_vn
     by_cases h_vt:x.vt=⟨#[]⟩
     ·have z_vt:=vt_eq h_vt
      have HR:=Hi (show aloneO ⟨true,true,false,false,false,false⟩ x=(!x.on) by simp [aloneO,isZ,isV,y_path,z_p,z_vk,z_vn,h_vt])
      clear h_path
      clear h_p
      clear h_vk
      clear h_vn
      clear h_vt
      obtain ⟨p0,p1,p2,p3,p4,p5⟩:=HP.out.cells
      obtain ⟨x0,x1,x2,x3,x4,x5,x6,x7,x8,x9,x10,x11⟩:=HX.out.cells
      dsimp only at p0 p1 p2 p3 p4 p5
      go_enter Tryz.func106,Tryz.ntmps106
      simp only [List.append]
      go_wp2
      go_ret
      exact ⟨ret_b HR.out.symm,HB.out⟩
     ·have z_vt:x.vt.toList.isEmpty=false:=str_ne h_vt
      have HR:=Hi (show aloneO ⟨true,true,false,false,false,false⟩ x=false by simp [aloneO,isZ,isV,y_path,z_p,z_vk,z_vn,h_vt])
      clear h_path
      clear h_p
      clear h_vk
      clear h_vn
      clear h_vt
      obtain ⟨p0,p1,p2,p3,p4,p5⟩:=HP.out.cells
      obtain ⟨x0,x1,x2,x3,x4,x5,x6,x7,x8,x9,x10,x11⟩:=HX.out.cells
      dsimp only at p0 p1 p2 p3 p4 p5
      go_enter Tryz.func106,Tryz.ntmps106
      simp only [List.append]
      go_wp2
      go_ret
      exact ⟨ret_b HR.out.symm,HB.out⟩
    ·have z_vn:(x.vn == 0)=false:=by simpa using h_vn
     have HR:=Hi (show aloneO ⟨true,true,false,false,false,false⟩ x=false by simp [aloneO,isZ,isV,y_path,z_p,z_vk,z_vn])
     clear h_path
     clear h_p
     clear h_vk
     clear h_vn
     obtain ⟨p0,p1,p2,p3,p4,p5⟩:=HP.out.cells
     obtain ⟨x0,x1,x2,x3,x4,x5,x6,x7,x8,x9,x10,x11⟩:=HX.out.cells
     dsimp only at p0 p1 p2 p3 p4 p5
     go_enter Tryz.func106,Tryz.ntmps106
     simp only [List.append]
     go_wp2
     go_ret
     exact ⟨ret_b HR.out.symm,HB.out⟩
   ·have z_vk:(x.vk == 0)=false:=by simpa using h_vk
    have HR:=Hi (show aloneO ⟨true,true,false,false,false,false⟩ x=false by simp [aloneO,isZ,isV,y_path,z_p,z_vk])
    clear h_path
    clear h_p
    clear h_vk
    obtain ⟨p0,p1,p2,p3,p4,p5⟩:=HP.out.cells
    obtain ⟨x0,x1,x2,x3,x4,x5,x6,x7,x8,x9,x10,x11⟩:=HX.out.cells
    dsimp only at p0 p1 p2 p3 p4 p5
    go_enter Tryz.func106,Tryz.ntmps106
    simp only [List.append]
    go_wp2
    go_ret
    exact ⟨ret_b HR.out.symm,HB.out⟩
  ·have z_p:(x.p == 0)=false:=by simpa using h_p
   have HR:=Hi (show aloneO ⟨true,true,false,false,false,false⟩ x=false by simp [aloneO,isZ,isV,y_path,z_p])
   clear h_path
   clear h_p
   obtain ⟨p0,p1,p2,p3,p4,p5⟩:=HP.out.cells
   obtain ⟨x0,x1,x2,x3,x4,x5,x6,x7,x8,x9,x10,x11⟩:=HX.out.cells
   dsimp only at p0 p1 p2 p3 p4 p5
   go_enter Tryz.func106,Tryz.ntmps106
   simp only [List.append]
   go_wp2
   go_ret
   exact ⟨ret_b HR.out.symm,HB.out⟩
 ·have z_path:((x.path.length:Int) == 0)=false:=by rw [beq_eq_false_iff_ne]; omega
  have y_path:(x.path.length == 0)=false:=by rw [beq_eq_false_iff_ne]; exact h_path
  have HR:=Hi (show aloneO ⟨true,true,false,false,false,false⟩ x=false by simp [aloneO,isZ,isV,y_path])
  clear h_path
  obtain ⟨p0,p1,p2,p3,p4,p5⟩:=HP.out.cells
  obtain ⟨x0,x1,x2,x3,x4,x5,x6,x7,x8,x9,x10,x11⟩:=HX.out.cells
  dsimp only at p0 p1 p2 p3 p4 p5
  go_enter Tryz.func106,Tryz.ntmps106
  simp only [List.append]
  go_wp2
  go_ret
  exact ⟨ret_b HR.out.symm,HB.out⟩
theorem alone3_any (x:Opp) (q:Option Addr) (c:Nat) (w:World) (ha:Pa w x q c):Calls Tryz.prog 106 #[.agg #[.bool true,.bool false,.bool false,.bool false,.bool true,.bool false],.agg (opA x q c)] w fun e w'=>e=.returned (.bool (aloneO ⟨true,false,false,false,true,false⟩ x))∧Below w.heap.size w w':=by
 obtain ⟨HP,HX,HA,HB⟩:=fit_start w ⟨true,false,false,false,true,false⟩ #[.bool true,.bool false,.bool false,.bool false,.bool true,.bool false] rfl x q c ha
 by_cases h_rt:x.rt=0
 ·have z_rt:(x.rt == 0)=true:=by simpa using h_rt
  by_cases h_rr:x.rr=0
  ·have z_rr:(x.rr == 0)=true:=by simpa using h_rr
   by_cases h_key:x.key=⟨#[]⟩
   ·have z_key:=key_eq h_key
    by_cases h_path:x.path.length=0
    ·have z_path:((x.path.length:Int) == 0)=true:=by rw [h_path]; rfl
     have y_path:(x.path.length == 0)=true:=by rw [h_path]; rfl
     have HR:=Hi (show aloneO ⟨true,false,false,false,true,false⟩ x=(!x.on) by simp [aloneO,isZ,isV,z_rt,z_rr,h_key,y_path])
     clear h_rt
     clear h_rr
     clear h_key
     clear h_path
     obtain ⟨p0,p1,p2,p3,p4,p5⟩:=HP.out.cells
     obtain ⟨x0,x1,x2,x3,x4,x5,x6,x7,x8,x9,x10,x11⟩:=HX.out.cells
     dsimp only at p0 p1 p2 p3 p4 p5
     go_enter Tryz.func106,Tryz.ntmps106
     simp only [List.append]
     go_wp2
     go_ret
     exact ⟨ret_b HR.out.symm,HB.out⟩
    ·have z_path:((x.path.length:Int) == 0)=false:=by rw [beq_eq_false_iff_ne]; omega
     have y_path:(x.path.length == 0)=false:=by rw [beq_eq_false_iff_ne]; exact h_path
     have HR:=Hi (show aloneO ⟨true,false,false,false,true,false⟩ x=false by simp [aloneO,isZ,isV,z_rt,z_rr,h_key,y_path])
     clear h_rt
     clear h_rr
     clear h_key
     clear h_path
     obtain ⟨p0,p1,p2,p3,p4,p5⟩:=HP.out.cells
     obtain ⟨x0,x1,x2,x3,x4,x5,x6,x7,x8,x9,x10,x11⟩:=HX.out.cells
     dsimp only at p0 p1 p2 p3 p4 p5
     go_enter Tryz.func106,Tryz.ntmps106
     simp only [List.append]
     go_wp2
     go_ret
     exact ⟨ret_b HR.out.symm,HB.out⟩
   ·have z_key:x.key.toList.isEmpty=false:=str_ne h_key
    have HR:=Hi (show aloneO ⟨true,false,false,false,true,false⟩ x=false by simp [aloneO,isZ,isV,z_rt,z_rr,h_key])
    clear h_rt
    clear h_rr
    clear h_key
    obtain ⟨p0,p1,p2,p3,p4,p5⟩:=HP.out.cells
    obtain ⟨x0,x1,x2,x3,x4,x5,x6,x7,x8,x9,x10,x11⟩:=HX.out.cells
    dsimp only at p0 p1 p2 p3 p4 p5
    go_enter Tryz.func106,Tryz.ntmps106
    simp only [List.append]
    go_wp2
    go_ret
    exact ⟨ret_b HR.out.symm,HB.out⟩
  ·have z_rr:(x.rr == 0)=false:=by simpa using h_rr
   have HR:=Hi (show aloneO ⟨true,false,false,false,true,false⟩ x=false by simp [aloneO,isZ,isV,z_rt,z_rr])
   clear h_rt
   clear h_rr
   obtain ⟨p0,p1,p2,p3,p4,p5⟩:=HP.out.cells
   obtain ⟨x0,x1,x2,x3,x4,x5,x6,x7,x8,x9,x10,x11⟩:=HX.out.cells
   dsimp only at p0 p1 p2 p3 p4 p5
   go_enter Tryz.func106,Tryz.ntmps106
   simp only [List.append]
   go_wp2
   go_ret
   exact ⟨ret_b HR.out.symm,HB.out⟩
 ·have z_rt:(x.rt == 0)=false:=by simpa using h_rt
  have HR:=Hi (show aloneO ⟨true,false,false,false,true,false⟩ x=false by simp [aloneO,isZ,isV,z_rt])
  clear h_rt
  obtain ⟨p0,p1,p2,p3,p4,p5⟩:=HP.out.cells
  obtain ⟨x0,x1,x2,x3,x4,x5,x6,x7,x8,x9,x10,x11⟩:=HX.out.cells
  dsimp only at p0 p1 p2 p3 p4 p5
  go_enter Tryz.func106,Tryz.ntmps106
  simp only [List.append]
  go_wp2
  go_ret
  exact ⟨ret_b HR.out.symm,HB.out⟩
theorem alone4_any (x:Opp) (q:Option Addr) (c:Nat) (w:World) (ha:Pa w x q c):Calls Tryz.prog 106 #[.agg #[.bool true,.bool false,.bool false,.bool false,.bool false,.bool true],.agg (opA x q c)] w fun e w'=>e=.returned (.bool (aloneO ⟨true,false,false,false,false,true⟩ x))∧Below w.heap.size w w':=by
 obtain ⟨HP,HX,HA,HB⟩:=fit_start w ⟨true,false,false,false,false,true⟩ #[.bool true,.bool false,.bool false,.bool false,.bool false,.bool true] rfl x q c ha
 by_cases h_rt:x.rt=0
 ·have z_rt:(x.rt == 0)=true:=by simpa using h_rt
  by_cases h_rr:x.rr=0
  ·have z_rr:(x.rr == 0)=true:=by simpa using h_rr
   by_cases h_key:x.key=⟨#[]⟩
   ·have z_key:=key_eq h_key
    by_cases h_path:x.path.length=0
    ·have z_path:((x.path.length:Int) == 0)=true:=by rw [h_path]; rfl
     have y_path:(x.path.length == 0)=true:=by rw [h_path]; rfl
     by_cases h_p:x.p=0
     ·have z_p:(x.p == 0)=true:=by simpa using h_p
      by_cases h_vk:x.vk=0
      ·have z_vk:(x.vk == 0)=true:=by simpa using h_vk
       by_cases h_vn:x.vn=0
       ·have z_vn:(x.vn == 0)=true:=by simpa using h_vn
        by_cases h_vt:x.vt=⟨#[]⟩
        ·have z_vt:=vt_eq h_vt
         have HR:=Hi (show aloneO ⟨true,false,false,false,false,true⟩ x=true by simp [aloneO,isZ,isV,z_rt,z_rr,h_key,y_path,z_p,z_vk,z_vn,h_vt])
         clear h_rt
         clear h_rr
         clear h_key
         clear h_path
         clear h_p
         clear h_vk
         clear h_vn
         clear h_vt
         obtain ⟨p0,p1,p2,p3,p4,p5⟩:=HP.out.cells
         obtain ⟨x0,x1,x2,x3,x4,x5,x6,x7,x8,x9,x10,x11⟩:=HX.out.cells
         dsimp only at p0 p1 p2 p3 p4 p5
         go_enter Tryz.func106,Tryz.ntmps106
         simp only [List.append]
         go_wp2
         go_ret
         exact ⟨ret_b HR.out.symm,HB.out⟩
        ·have z_vt:x.vt.toList.isEmpty=false:=str_ne h_vt
         have HR:=Hi (show aloneO ⟨true,false,false,false,false,true⟩ x=false by simp [aloneO,isZ,isV,z_rt,z_rr,h_key,y_path,z_p,z_vk,z_vn,h_vt])
         clear h_rt
         clear h_rr
         clear h_key
         clear h_path
         clear h_p
         clear h_vk
         clear h_vn
         clear h_vt
         obtain ⟨p0,p1,p2,p3,p4,p5⟩:=HP.out.cells
         obtain ⟨x0,x1,x2,x3,x4,x5,x6,x7,x8,x9,x10,x11⟩:=HX.out.cells
         dsimp only at p0 p1 p2 p3 p4 p5
         go_enter Tryz.func106,Tryz.ntmps106
         simp only [List.append]
         go_wp2
         go_ret
         exact ⟨ret_b HR.out.symm,HB.out⟩
       ·have z_vn:(x.vn == 0)=false:=by simpa using h_vn
        have HR:=Hi (show aloneO ⟨true,false,false,false,false,true⟩ x=false by simp [aloneO,isZ,isV,z_rt,z_rr,h_key,y_path,z_p,z_vk,z_vn])
        clear h_rt
        clear h_rr
        clear h_key
        clear h_path
        clear h_p
        clear h_vk
        clear h_vn
        obtain ⟨p0,p1,p2,p3,p4,p5⟩:=HP.out.cells
        obtain ⟨x0,x1,x2,x3,x4,x5,x6,x7,x8,x9,x10,x11⟩:=HX.out.cells
        dsimp only at p0 p1 p2 p3 p4 p5
        go_enter Tryz.func106,Tryz.ntmps106
        simp only [List.append]
        go_wp2
        go_ret
        exact ⟨ret_b HR.out.symm,HB.out⟩
      ·have z_vk:(x.vk == 0)=false:=by simpa using h_vk
       have HR:=Hi (show aloneO ⟨true,false,false,false,false,true⟩ x=false by simp [aloneO,isZ,isV,z_rt,z_rr,h_key,y_path,z_p,z_vk])
       clear h_rt
       clear h_rr
       clear h_key
       clear h_path
       clear h_p
       clear h_vk
       obtain ⟨p0,p1,p2,p3,p4,p5⟩:=HP.out.cells
       obtain ⟨x0,x1,x2,x3,x4,x5,x6,x7,x8,x9,x10,x11⟩:=HX.out.cells
       dsimp only at p0 p1 p2 p3 p4 p5
       go_enter Tryz.func106,Tryz.ntmps106
       simp only [List.append]
       go_wp2
       go_ret
       exact ⟨ret_b HR.out.symm,HB.out⟩
     ·have z_p:(x.p == 0)=false:=by simpa using h_p
      have HR:=Hi (show aloneO ⟨true,false,false,false,false,true⟩ x=false by simp [aloneO,isZ,isV,z_rt,z_rr,h_key,y_path,z_p])
      clear h_rt
      clear h_rr
      clear h_key
      clear h_path
      clear h_p
      obtain ⟨p0,p1,p2,p3,p4,p5⟩:=HP.out.cells
      obtain ⟨x0,x1,x2,x3,x4,x5,x6,x7,x8,x9,x10,x11⟩:=HX.out.cells
      dsimp only at p0 p1 p2 p3 p4 p5
      go_enter Tryz.func106,Tryz.ntmps106
      simp only [List.append]
      go_wp2
      go_ret
      exact ⟨ret_b HR.out.symm,HB.out⟩
    ·have z_path:((x.path.length:Int) == 0)=false:=by rw [beq_eq_false_iff_ne]; omega
     have y_path:(x.path.length == 0)=false:=by rw [beq_eq_false_iff_ne]; exact h_path
     have HR:=Hi (show aloneO ⟨true,false,false,false,false,true⟩ x=false by simp [aloneO,isZ,isV,z_rt,z_rr,h_key,y_path])
     clear h_rt
     clear h_rr
     clear h_key
     clear h_path
     obtain ⟨p0,p1,p2,p3,p4,p5⟩:=HP.out.cells
     obtain ⟨x0,x1,x2,x3,x4,x5,x6,x7,x8,x9,x10,x11⟩:=HX.out.cells
     dsimp only at p0 p1 p2 p3 p4 p5
     go_enter Tryz.func106,Tryz.ntmps106
     simp only [List.append]
     go_wp2
     go_ret
     exact ⟨ret_b HR.out.symm,HB.out⟩
   ·have z_key:x.key.toList.isEmpty=false:=str_ne h_key
    have HR:=Hi (show aloneO ⟨true,false,false,false,false,true⟩ x=false by simp [aloneO,isZ,isV,z_rt,z_rr,h_key])
    clear h_rt
    clear h_rr
    clear h_key
    obtain ⟨p0,p1,p2,p3,p4,p5⟩:=HP.out.cells
    obtain ⟨x0,x1,x2,x3,x4,x5,x6,x7,x8,x9,x10,x11⟩:=HX.out.cells
    dsimp only at p0 p1 p2 p3 p4 p5
    go_enter Tryz.func106,Tryz.ntmps106
    simp only [List.append]
    go_wp2
    go_ret
    exact ⟨ret_b HR.out.symm,HB.out⟩
  ·have z_rr:(x.rr == 0)=false:=by simpa using h_rr
   have HR:=Hi (show aloneO ⟨true,false,false,false,false,true⟩ x=false by simp [aloneO,isZ,isV,z_rt,z_rr])
   clear h_rt
   clear h_rr
   obtain ⟨p0,p1,p2,p3,p4,p5⟩:=HP.out.cells
   obtain ⟨x0,x1,x2,x3,x4,x5,x6,x7,x8,x9,x10,x11⟩:=HX.out.cells
   dsimp only at p0 p1 p2 p3 p4 p5
   go_enter Tryz.func106,Tryz.ntmps106
   simp only [List.append]
   go_wp2
   go_ret
   exact ⟨ret_b HR.out.symm,HB.out⟩
 ·have z_rt:(x.rt == 0)=false:=by simpa using h_rt
  have HR:=Hi (show aloneO ⟨true,false,false,false,false,true⟩ x=false by simp [aloneO,isZ,isV,z_rt])
  clear h_rt
  obtain ⟨p0,p1,p2,p3,p4,p5⟩:=HP.out.cells
  obtain ⟨x0,x1,x2,x3,x4,x5,x6,x7,x8,x9,x10,x11⟩:=HX.out.cells
  dsimp only at p0 p1 p2 p3 p4 p5
  go_enter Tryz.func106,Tryz.ntmps106
  simp only [List.append]
  go_wp2
  go_ret
  exact ⟨ret_b HR.out.symm,HB.out⟩
theorem alone5_any (x:Opp) (q:Option Addr) (c:Nat) (w:World) (ha:Pa w x q c):Calls Tryz.prog 106 #[.agg #[.bool true,.bool false,.bool true,.bool false,.bool false,.bool false],.agg (opA x q c)] w fun e w'=>e=.returned (.bool (aloneO ⟨true,false,true,false,false,false⟩ x))∧Below w.heap.size w w':=by
 obtain ⟨HP,HX,HA,HB⟩:=fit_start w ⟨true,false,true,false,false,false⟩ #[.bool true,.bool false,.bool true,.bool false,.bool false,.bool false] rfl x q c ha
 by_cases h_key:x.key=⟨#[]⟩
 ·have z_key:=key_eq h_key
  by_cases h_path:x.path.length=0
  ·have z_path:((x.path.length:Int) == 0)=true:=by rw [h_path]; rfl
   have y_path:(x.path.length == 0)=true:=by rw [h_path]; rfl
   by_cases h_p:x.p=0
   ·have z_p:(x.p == 0)=true:=by simpa using h_p
    by_cases h_vk:x.vk=0
    ·have z_vk:(x.vk == 0)=true:=by simpa using h_vk
     by_cases h_vn:x.vn=0
     ·have z_vn:(x.vn == 0)=true:=by simpa using h_vn
      by_cases h_vt:x.vt=⟨#[]⟩
      ·have z_vt:=vt_eq h_vt
       have HR:=Hi (show aloneO ⟨true,false,true,false,false,false⟩ x=(!x.on) by simp [aloneO,isZ,isV,h_key,y_path,z_p,z_vk,z_vn,h_vt])
       clear h_key
       clear h_path
       clear h_p
       clear h_vk
       clear h_vn
       clear h_vt
       obtain ⟨p0,p1,p2,p3,p4,p5⟩:=HP.out.cells
       obtain ⟨x0,x1,x2,x3,x4,x5,x6,x7,x8,x9,x10,x11⟩:=HX.out.cells
       dsimp only at p0 p1 p2 p3 p4 p5
       go_enter Tryz.func106,Tryz.ntmps106
       simp only [List.append]
       go_wp2
       go_ret
       exact ⟨ret_b HR.out.symm,HB.out⟩
      ·have z_vt:x.vt.toList.isEmpty=false:=str_ne h_vt
       have HR:=Hi (show aloneO ⟨true,false,true,false,false,false⟩ x=false by simp [aloneO,isZ,isV,h_key,y_path,z_p,z_vk,z_vn,h_vt])
       clear h_key
       clear h_path
       clear h_p
       clear h_vk
       clear h_vn
       clear h_vt
       obtain ⟨p0,p1,p2,p3,p4,p5⟩:=HP.out.cells
       obtain ⟨x0,x1,x2,x3,x4,x5,x6,x7,x8,x9,x10,x11⟩:=HX.out.cells
       dsimp only at p0 p1 p2 p3 p4 p5
       go_enter Tryz.func106,Tryz.ntmps106
       simp only [List.append]
       go_wp2
       go_ret
       exact ⟨ret_b HR.out.symm,HB.out⟩
     ·have z_vn:(x.vn == 0)=false:=by simpa using h_vn
      have HR:=Hi (show aloneO ⟨true,false,true,false,false,false⟩ x=false by simp [aloneO,isZ,isV,h_key,y_path,z_p,z_vk,z_vn])
      clear h_key
      clear h_path
      clear h_p
      clear h_vk
      clear h_vn
      obtain ⟨p0,p1,p2,p3,p4,p5⟩:=HP.out.cells
      obtain ⟨x0,x1,x2,x3,x4,x5,x6,x7,x8,x9,x10,x11⟩:=HX.out.cells
      dsimp only at p0 p1 p2 p3 p4 p5
      go_enter Tryz.func106,Tryz.ntmps106
      simp only [List.append]
      go_wp2
      go_ret
      exact ⟨ret_b HR.out.symm,HB.out⟩
    ·have z_vk:(x.vk == 0)=false:=by simpa using h_vk
     have HR:=Hi (show aloneO ⟨true,false,true,false,false,false⟩ x=false by simp [aloneO,isZ,isV,h_key,y_path,z_p,z_vk])
     clear h_key
     clear h_path
     clear h_p
     clear h_vk
     obtain ⟨p0,p1,p2,p3,p4,p5⟩:=HP.out.cells
     obtain ⟨x0,x1,x2,x3,x4,x5,x6,x7,x8,x9,x10,x11⟩:=HX.out.cells
     dsimp only at p0 p1 p2 p3 p4 p5
     go_enter Tryz.func106,Tryz.ntmps106
     simp only [List.append]
     go_wp2
     go_ret
     exact ⟨ret_b HR.out.symm,HB.out⟩
   ·have z_p:(x.p == 0)=false:=by simpa using h_p
    have HR:=Hi (show aloneO ⟨true,false,true,false,false,false⟩ x=false by simp [aloneO,isZ,isV,h_key,y_path,z_p])
    clear h_key
    clear h_path
    clear h_p
    obtain ⟨p0,p1,p2,p3,p4,p5⟩:=HP.out.cells
    obtain ⟨x0,x1,x2,x3,x4,x5,x6,x7,x8,x9,x10,x11⟩:=HX.out.cells
    dsimp only at p0 p1 p2 p3 p4 p5
    go_enter Tryz.func106,Tryz.ntmps106
    simp only [List.append]
    go_wp2
    go_ret
    exact ⟨ret_b HR.out.symm,HB.out⟩
  ·have z_path:((x.path.length:Int) == 0)=false:=by rw [beq_eq_false_iff_ne]; omega
   have y_path:(x.path.length == 0)=false:=by rw [beq_eq_false_iff_ne]; exact h_path
   have HR:=Hi (show aloneO ⟨true,false,true,false,false,false⟩ x=false by simp [aloneO,isZ,isV,h_key,y_path])
   clear h_key
   clear h_path
   obtain ⟨p0,p1,p2,p3,p4,p5⟩:=HP.out.cells
   obtain ⟨x0,x1,x2,x3,x4,x5,x6,x7,x8,x9,x10,x11⟩:=HX.out.cells
   dsimp only at p0 p1 p2 p3 p4 p5
   go_enter Tryz.func106,Tryz.ntmps106
   simp only [List.append]
   go_wp2
   go_ret
   exact ⟨ret_b HR.out.symm,HB.out⟩
 ·have z_key:x.key.toList.isEmpty=false:=str_ne h_key
  have HR:=Hi (show aloneO ⟨true,false,true,false,false,false⟩ x=false by simp [aloneO,isZ,isV,h_key])
  clear h_key
  obtain ⟨p0,p1,p2,p3,p4,p5⟩:=HP.out.cells
  obtain ⟨x0,x1,x2,x3,x4,x5,x6,x7,x8,x9,x10,x11⟩:=HX.out.cells
  dsimp only at p0 p1 p2 p3 p4 p5
  go_enter Tryz.func106,Tryz.ntmps106
  simp only [List.append]
  go_wp2
  go_ret
  exact ⟨ret_b HR.out.symm,HB.out⟩
theorem alone6_any (x:Opp) (q:Option Addr) (c:Nat) (w:World) (ha:Pa w x q c):Calls Tryz.prog 106 #[.agg #[.bool true,.bool false,.bool false,.bool true,.bool true,.bool false],.agg (opA x q c)] w fun e w'=>e=.returned (.bool (aloneO ⟨true,false,false,true,true,false⟩ x))∧Below w.heap.size w w':=by
 obtain ⟨HP,HX,HA,HB⟩:=fit_start w ⟨true,false,false,true,true,false⟩ #[.bool true,.bool false,.bool false,.bool true,.bool true,.bool false] rfl x q c ha
 by_cases h_rt:x.rt=0
 ·have z_rt:(x.rt == 0)=true:=by simpa using h_rt
  by_cases h_rr:x.rr=0
  ·have z_rr:(x.rr == 0)=true:=by simpa using h_rr
   by_cases h_key:x.key=⟨#[]⟩
   ·have z_key:=key_eq h_key
    have HR:=Hi (show aloneO ⟨true,false,false,true,true,false⟩ x=(!x.on) by simp [aloneO,isZ,isV,z_rt,z_rr,h_key])
    clear h_rt
    clear h_rr
    clear h_key
    obtain ⟨p0,p1,p2,p3,p4,p5⟩:=HP.out.cells
    obtain ⟨x0,x1,x2,x3,x4,x5,x6,x7,x8,x9,x10,x11⟩:=HX.out.cells
    dsimp only at p0 p1 p2 p3 p4 p5
    go_enter Tryz.func106,Tryz.ntmps106
    simp only [List.append]
    go_wp2
    go_ret
    exact ⟨ret_b HR.out.symm,HB.out⟩
   ·have z_key:x.key.toList.isEmpty=false:=str_ne h_key
    have HR:=Hi (show aloneO ⟨true,false,false,true,true,false⟩ x=false by simp [aloneO,isZ,isV,z_rt,z_rr,h_key])
    clear h_rt
    clear h_rr
    clear h_key
    obtain ⟨p0,p1,p2,p3,p4,p5⟩:=HP.out.cells
    obtain ⟨x0,x1,x2,x3,x4,x5,x6,x7,x8,x9,x10,x11⟩:=HX.out.cells
    dsimp only at p0 p1 p2 p3 p4 p5
    go_enter Tryz.func106,Tryz.ntmps106
    simp only [List.append]
    go_wp2
    go_ret
    exact ⟨ret_b HR.out.symm,HB.out⟩
  ·have z_rr:(x.rr == 0)=false:=by simpa using h_rr
   have HR:=Hi (show aloneO ⟨true,false,false,true,true,false⟩ x=false by simp [aloneO,isZ,isV,z_rt,z_rr])
   clear h_rt
   clear h_rr
   obtain ⟨p0,p1,p2,p3,p4,p5⟩:=HP.out.cells
   obtain ⟨x0,x1,x2,x3,x4,x5,x6,x7,x8,x9,x10,x11⟩:=HX.out.cells
   dsimp only at p0 p1 p2 p3 p4 p5
   go_enter Tryz.func106,Tryz.ntmps106
   simp only [List.append]
   go_wp2
   go_ret
   exact ⟨ret_b HR.out.symm,HB.out⟩
 ·have z_rt:(x.rt == 0)=false:=by simpa using h_rt
  have HR:=Hi (show aloneO ⟨true,false,false,true,true,false⟩ x=false by simp [aloneO,isZ,isV,z_rt])
  clear h_rt
  obtain ⟨p0,p1,p2,p3,p4,p5⟩:=HP.out.cells
  obtain ⟨x0,x1,x2,x3,x4,x5,x6,x7,x8,x9,x10,x11⟩:=HX.out.cells
  dsimp only at p0 p1 p2 p3 p4 p5
  go_enter Tryz.func106,Tryz.ntmps106
  simp only [List.append]
  go_wp2
  go_ret
  exact ⟨ret_b HR.out.symm,HB.out⟩
open Go.RowKit
theorem right_start (w:World) (x:Opp) (q:Option Addr) (c:Nat) (ha:Pa w x q c):Hid (OpAt (w.alloc (.cells (opA x q c) 55)) w.heap.size x q c)∧Hid (Pa (w.alloc (.cells (opA x q c) 55)) x q c)∧Hid (Below w.heap.size w (w.alloc (.cells (opA x q c) 55))) :=
 ⟨OpAt.new w x q c _,ha.kept ((Below.refl _ _).alloc (Nat.le_refl _) _),(Below.refl _ _).alloc (Nat.le_refl _) _⟩
theorem rightO_none {x:Opp} (h1:x.k≠1) (h2:x.k≠2) (h3:x.k≠3) (h4:x.k≠4) (h5:x.k≠5) (h6:x.k≠6):rightO x=false:=by
 unfold rightO
 rw [decide_eq_false (by omega)]
 rfl
theorem rightO_of {x:Opp} {k:Int} (h:x.k=k) (h1:1≤k) (h6:k≤6):rightO x=(fitO (prt k) x && aloneO (prt k) x):=by
 subst h
 unfold rightO
 rw [decide_eq_true ⟨h1,h6⟩]
 rfl
theorem right1_any (x:Opp) (q:Option Addr) (c:Nat) (w:World) (hs:Sz x) (ha:Pa w x q c) (hk:x.k=1):Calls Tryz.prog 84 #[.agg (opA x q c)] w fun e w'=>e=.returned (.bool (rightO x))∧Below w.heap.size w w':=by
 obtain ⟨HX,HA,HB⟩:=right_start w x q c ha
 have HR:=Hi (rightO_of (x:=x) hk (by decide) (by decide))
 have HK:=Hi hk
 have HNA:=Hi (fun W=>named_any x.k W)
 rw [hk] at HNA
 obtain ⟨x0,-⟩:=HX.out.cells
 rw [hk] at x0
 clear hk
 cases hf:fitO ⟨false,true,false,false,false,false⟩ x with
 | false =>
  have HV:=Hi (show (fitO (prt 1) x && aloneO (prt 1) x)=false by rw [show fitO (prt 1) x=false from hf]; rfl)
  have HF:=Hi hf
  clear hf
  go_enter Tryz.func84,Tryz.ntmps84
  go_wp2_with fail
  refine (HNA.out _).mono ?_
  rintro e w1 ⟨rfl,hb1⟩
  replace HX:=Hi ((HX.out.kept hb1).kept ((Below.refl _ _).alloc (Nat.le_refl _) (.cells #[.bool false,.bool true,.bool false,.bool false,.bool false,.bool false] 156)))
  replace HA:=Hi ((HA.out.kept hb1).kept ((Below.refl _ _).alloc (Nat.le_refl _) (.cells #[.bool false,.bool true,.bool false,.bool false,.bool false,.bool false] 156)))
  replace HB:=Hi (HB.out.trans (hb1.mono HB.out.size))
  replace HB:=Hi (HB.out.alloc HB.out.size (.cells #[.bool false,.bool true,.bool false,.bool false,.bool false,.bool false] 156))
  have HP:=Hi (show PrAt (w1.alloc (.cells #[.bool false,.bool true,.bool false,.bool false,.bool false,.bool false] 156)) w1.heap.size ⟨false,true,false,false,false,false⟩ from PrAt.new w1 ⟨false,true,false,false,false,false⟩ 156)
  have hpr:prA (prt 1)=#[.bool false,.bool true,.bool false,.bool false,.bool false,.bool false]:=rfl
  clear hb1 x0
  have hx:=HX.out
  go_wp2_with (refine wpList_load_opG otP (by kernel_rfl) _ rfl _ rfl _ _ _ (by assumption) ?_)
  refine (fit1_any x q c _ hs HA.out).mono ?_
  rw [HF.out]
  rintro e w1 ⟨rfl,hb1⟩
  replace HB:=Hi (HB.out.trans (hb1.mono HB.out.size))
  replace HX:=Hi (HX.out.kept hb1)
  replace HA:=Hi (HA.out.kept hb1)
  replace HP:=Hi (HP.out.kept hb1)
  clear hb1 hx
  have hx:=HX.out
  obtain ⟨p0,p1,p2,p3,p4,p5⟩:=HP.out.cells
  dsimp only at p0 p1 p2 p3 p4 p5
  go_wp2
  go_ret
  exact ⟨ret_b (HR.out.trans HV.out).symm,HB.out⟩
 | true =>
  have HV:=Hi (show (fitO (prt 1) x && aloneO (prt 1) x)=aloneO ⟨false,true,false,false,false,false⟩ x by rw [show fitO (prt 1) x=true from hf]; rfl)
  have HF:=Hi hf
  clear hf
  go_enter Tryz.func84,Tryz.ntmps84
  go_wp2_with fail
  refine (HNA.out _).mono ?_
  rintro e w1 ⟨rfl,hb1⟩
  replace HX:=Hi ((HX.out.kept hb1).kept ((Below.refl _ _).alloc (Nat.le_refl _) (.cells #[.bool false,.bool true,.bool false,.bool false,.bool false,.bool false] 156)))
  replace HA:=Hi ((HA.out.kept hb1).kept ((Below.refl _ _).alloc (Nat.le_refl _) (.cells #[.bool false,.bool true,.bool false,.bool false,.bool false,.bool false] 156)))
  replace HB:=Hi (HB.out.trans (hb1.mono HB.out.size))
  replace HB:=Hi (HB.out.alloc HB.out.size (.cells #[.bool false,.bool true,.bool false,.bool false,.bool false,.bool false] 156))
  have HP:=Hi (show PrAt (w1.alloc (.cells #[.bool false,.bool true,.bool false,.bool false,.bool false,.bool false] 156)) w1.heap.size ⟨false,true,false,false,false,false⟩ from PrAt.new w1 ⟨false,true,false,false,false,false⟩ 156)
  have hpr:prA (prt 1)=#[.bool false,.bool true,.bool false,.bool false,.bool false,.bool false]:=rfl
  clear hb1 x0
  have hx:=HX.out
  go_wp2_with (refine wpList_load_opG otP (by kernel_rfl) _ rfl _ rfl _ _ _ (by assumption) ?_)
  refine (fit1_any x q c _ hs HA.out).mono ?_
  rw [HF.out]
  rintro e w1 ⟨rfl,hb1⟩
  replace HB:=Hi (HB.out.trans (hb1.mono HB.out.size))
  replace HX:=Hi (HX.out.kept hb1)
  replace HA:=Hi (HA.out.kept hb1)
  replace HP:=Hi (HP.out.kept hb1)
  clear hb1 hx
  have hx:=HX.out
  obtain ⟨p0,p1,p2,p3,p4,p5⟩:=HP.out.cells
  dsimp only at p0 p1 p2 p3 p4 p5
  go_wp2_with (refine wpList_load_opG otP (by kernel_rfl) _ rfl _ rfl _ _ _ (by assumption) ?_)
  refine (alone1_any x q c _ HA.out).mono ?_
  rintro e w1 ⟨rfl,hb1⟩
  replace HB:=Hi (HB.out.trans (hb1.mono HB.out.size))
  replace HX:=Hi (HX.out.kept hb1)
  replace HA:=Hi (HA.out.kept hb1)
  replace HP:=Hi (HP.out.kept hb1)
  clear hb1 hx
  have hx:=HX.out
  obtain ⟨p0,p1,p2,p3,p4,p5⟩:=HP.out.cells
  dsimp only at p0 p1 p2 p3 p4 p5
  go_wp2
  go_ret
  exact ⟨ret_b (HR.out.trans HV.out).symm,HB.out⟩
theorem right2_any (x:Opp) (q:Option Addr) (c:Nat) (w:World) (hs:Sz x) (ha:Pa w x q c) (hk:x.k=2):Calls Tryz.prog 84 #[.agg (opA x q c)] w fun e w'=>e=.returned (.bool (rightO x))∧Below w.heap.size w w':=by
 obtain ⟨HX,HA,HB⟩:=right_start w x q c ha
 have HR:=Hi (rightO_of (x:=x) hk (by decide) (by decide))
 have HK:=Hi hk
 have HNA:=Hi (fun W=>named_any x.k W)
 rw [hk] at HNA
 obtain ⟨x0,-⟩:=HX.out.cells
 rw [hk] at x0
 clear hk
 cases hf:fitO ⟨true,true,false,false,false,false⟩ x with
 | false =>
  have HV:=Hi (show (fitO (prt 2) x && aloneO (prt 2) x)=false by rw [show fitO (prt 2) x=false from hf]; rfl)
  have HF:=Hi hf
  clear hf
  go_enter Tryz.func84,Tryz.ntmps84
  go_wp2_with fail
  refine (HNA.out _).mono ?_
  rintro e w1 ⟨rfl,hb1⟩
  replace HX:=Hi ((HX.out.kept hb1).kept ((Below.refl _ _).alloc (Nat.le_refl _) (.cells #[.bool true,.bool true,.bool false,.bool false,.bool false,.bool false] 156)))
  replace HA:=Hi ((HA.out.kept hb1).kept ((Below.refl _ _).alloc (Nat.le_refl _) (.cells #[.bool true,.bool true,.bool false,.bool false,.bool false,.bool false] 156)))
  replace HB:=Hi (HB.out.trans (hb1.mono HB.out.size))
  replace HB:=Hi (HB.out.alloc HB.out.size (.cells #[.bool true,.bool true,.bool false,.bool false,.bool false,.bool false] 156))
  have HP:=Hi (show PrAt (w1.alloc (.cells #[.bool true,.bool true,.bool false,.bool false,.bool false,.bool false] 156)) w1.heap.size ⟨true,true,false,false,false,false⟩ from PrAt.new w1 ⟨true,true,false,false,false,false⟩ 156)
  have hpr:prA (prt 2)=#[.bool true,.bool true,.bool false,.bool false,.bool false,.bool false]:=rfl
  clear hb1 x0
  have hx:=HX.out
  go_wp2_with (refine wpList_load_opG otP (by kernel_rfl) _ rfl _ rfl _ _ _ (by assumption) ?_)
  refine (fit2_any x q c _ hs HA.out).mono ?_
  rw [HF.out]
  rintro e w1 ⟨rfl,hb1⟩
  replace HB:=Hi (HB.out.trans (hb1.mono HB.out.size))
  replace HX:=Hi (HX.out.kept hb1)
  replace HA:=Hi (HA.out.kept hb1)
  replace HP:=Hi (HP.out.kept hb1)
  clear hb1 hx
  have hx:=HX.out
  obtain ⟨p0,p1,p2,p3,p4,p5⟩:=HP.out.cells
  dsimp only at p0 p1 p2 p3 p4 p5
  go_wp2
  go_ret
  exact ⟨ret_b (HR.out.trans HV.out).symm,HB.out⟩
 | true =>
  have HV:=Hi (show (fitO (prt 2) x && aloneO (prt 2) x)=aloneO ⟨true,true,false,false,false,false⟩ x by rw [show fitO (prt 2) x=true from hf]; rfl)
  have HF:=Hi hf
  clear hf
  go_enter Tryz.func84,Tryz.ntmps84
  go_wp2_with fail
  refine (HNA.out _).mono ?_
  rintro e w1 ⟨rfl,hb1⟩
  replace HX:=Hi ((HX.out.kept hb1).kept ((Below.refl _ _).alloc (Nat.le_refl _) (.cells #[.bool true,.bool true,.bool false,.bool false,.bool false,.bool false] 156)))
  replace HA:=Hi ((HA.out.kept hb1).kept ((Below.refl _ _).alloc (Nat.le_refl _) (.cells #[.bool true,.bool true,.bool false,.bool false,.bool false,.bool false] 156)))
  replace HB:=Hi (HB.out.trans (hb1.mono HB.out.size))
  replace HB:=Hi (HB.out.alloc HB.out.size (.cells #[.bool true,.bool true,.bool false,.bool false,.bool false,.bool false] 156))
  have HP:=Hi (show PrAt (w1.alloc (.cells #[.bool true,.bool true,.bool false,.bool false,.bool false,.bool false] 156)) w1.heap.size ⟨true,true,false,false,false,false⟩ from PrAt.new w1 ⟨true,true,false,false,false,false⟩ 156)
  have hpr:prA (prt 2)=#[.bool true,.bool true,.bool false,.bool false,.bool false,.bool false]:=rfl
  clear hb1 x0
  have hx:=HX.out
  go_wp2_with (refine wpList_load_opG otP (by kernel_rfl) _ rfl _ rfl _ _ _ (by assumption) ?_)
  refine (fit2_any x q c _ hs HA.out).mono ?_
  rw [HF.out]
  rintro e w1 ⟨rfl,hb1⟩
  replace HB:=Hi (HB.out.trans (hb1.mono HB.out.size))
  replace HX:=Hi (HX.out.kept hb1)
  replace HA:=Hi (HA.out.kept hb1)
  replace HP:=Hi (HP.out.kept hb1)
  clear hb1 hx
  have hx:=HX.out
  obtain ⟨p0,p1,p2,p3,p4,p5⟩:=HP.out.cells
  dsimp only at p0 p1 p2 p3 p4 p5
  go_wp2_with (refine wpList_load_opG otP (by kernel_rfl) _ rfl _ rfl _ _ _ (by assumption) ?_)
  refine (alone2_any x q c _ HA.out).mono ?_
  rintro e w1 ⟨rfl,hb1⟩
  replace HB:=Hi (HB.out.trans (hb1.mono HB.out.size))
  replace HX:=Hi (HX.out.kept hb1)
  replace HA:=Hi (HA.out.kept hb1)
  replace HP:=Hi (HP.out.kept hb1)
  clear hb1 hx
  have hx:=HX.out
  obtain ⟨p0,p1,p2,p3,p4,p5⟩:=HP.out.cells
  dsimp only at p0 p1 p2 p3 p4 p5
  go_wp2
  go_ret
  exact ⟨ret_b (HR.out.trans HV.out).symm,HB.out⟩
theorem right3_any (x:Opp) (q:Option Addr) (c:Nat) (w:World) (hs:Sz x) (ha:Pa w x q c) (hk:x.k=3):Calls Tryz.prog 84 #[.agg (opA x q c)] w fun e w'=>e=.returned (.bool (rightO x))∧Below w.heap.size w w':=by
 obtain ⟨HX,HA,HB⟩:=right_start w x q c ha
 have HR:=Hi (rightO_of (x:=x) hk (by decide) (by decide))
 have HK:=Hi hk
 have HNA:=Hi (fun W=>named_any x.k W)
 rw [hk] at HNA
 obtain ⟨x0,-⟩:=HX.out.cells
 rw [hk] at x0
 clear hk
 cases hf:fitO ⟨true,false,false,false,true,false⟩ x with
 | false =>
  have HV:=Hi (show (fitO (prt 3) x && aloneO (prt 3) x)=false by rw [show fitO (prt 3) x=false from hf]; rfl)
  have HF:=Hi hf
  clear hf
  go_enter Tryz.func84,Tryz.ntmps84
  go_wp2_with fail
  refine (HNA.out _).mono ?_
  rintro e w1 ⟨rfl,hb1⟩
  replace HX:=Hi ((HX.out.kept hb1).kept ((Below.refl _ _).alloc (Nat.le_refl _) (.cells #[.bool true,.bool false,.bool false,.bool false,.bool true,.bool false] 156)))
  replace HA:=Hi ((HA.out.kept hb1).kept ((Below.refl _ _).alloc (Nat.le_refl _) (.cells #[.bool true,.bool false,.bool false,.bool false,.bool true,.bool false] 156)))
  replace HB:=Hi (HB.out.trans (hb1.mono HB.out.size))
  replace HB:=Hi (HB.out.alloc HB.out.size (.cells #[.bool true,.bool false,.bool false,.bool false,.bool true,.bool false] 156))
  have HP:=Hi (show PrAt (w1.alloc (.cells #[.bool true,.bool false,.bool false,.bool false,.bool true,.bool false] 156)) w1.heap.size ⟨true,false,false,false,true,false⟩ from PrAt.new w1 ⟨true,false,false,false,true,false⟩ 156)
  have hpr:prA (prt 3)=#[.bool true,.bool false,.bool false,.bool false,.bool true,.bool false]:=rfl
  clear hb1 x0
  have hx:=HX.out
  go_wp2_with (refine wpList_load_opG otP (by kernel_rfl) _ rfl _ rfl _ _ _ (by assumption) ?_)
  refine (fit3_any x q c _ hs HA.out).mono ?_
  rw [HF.out]
  rintro e w1 ⟨rfl,hb1⟩
  replace HB:=Hi (HB.out.trans (hb1.mono HB.out.size))
  replace HX:=Hi (HX.out.kept hb1)
  replace HA:=Hi (HA.out.kept hb1)
  replace HP:=Hi (HP.out.kept hb1)
  clear hb1 hx
  have hx:=HX.out
  obtain ⟨p0,p1,p2,p3,p4,p5⟩:=HP.out.cells
  dsimp only at p0 p1 p2 p3 p4 p5
  go_wp2
  go_ret
  exact ⟨ret_b (HR.out.trans HV.out).symm,HB.out⟩
 | true =>
  have HV:=Hi (show (fitO (prt 3) x && aloneO (prt 3) x)=aloneO ⟨true,false,false,false,true,false⟩ x by rw [show fitO (prt 3) x=true from hf]; rfl)
  have HF:=Hi hf
  clear hf
  go_enter Tryz.func84,Tryz.ntmps84
  go_wp2_with fail
  refine (HNA.out _).mono ?_
  rintro e w1 ⟨rfl,hb1⟩
  replace HX:=Hi ((HX.out.kept hb1).kept ((Below.refl _ _).alloc (Nat.le_refl _) (.cells #[.bool true,.bool false,.bool false,.bool false,.bool true,.bool false] 156)))
  replace HA:=Hi ((HA.out.kept hb1).kept ((Below.refl _ _).alloc (Nat.le_refl _) (.cells #[.bool true,.bool false,.bool false,.bool false,.bool true,.bool false] 156)))
  replace HB:=Hi (HB.out.trans (hb1.mono HB.out.size))
  replace HB:=Hi (HB.out.alloc HB.out.size (.cells #[.bool true,.bool false,.bool false,.bool false,.bool true,.bool false] 156))
  have HP:=Hi (show PrAt (w1.alloc (.cells #[.bool true,.bool false,.bool false,.bool false,.bool true,.bool false] 156)) w1.heap.size ⟨true,false,false,false,true,false⟩ from PrAt.new w1 ⟨true,false,false,false,true,false⟩ 156)
  have hpr:prA (prt 3)=#[.bool true,.bool false,.bool false,.bool false,.bool true,.bool false]:=rfl
  clear hb1 x0
  have hx:=HX.out
  go_wp2_with (refine wpList_load_opG otP (by kernel_rfl) _ rfl _ rfl _ _ _ (by assumption) ?_)
  refine (fit3_any x q c _ hs HA.out).mono ?_
  rw [HF.out]
  rintro e w1 ⟨rfl,hb1⟩
  replace HB:=Hi (HB.out.trans (hb1.mono HB.out.size))
  replace HX:=Hi (HX.out.kept hb1)
  replace HA:=Hi (HA.out.kept hb1)
  replace HP:=Hi (HP.out.kept hb1)
  clear hb1 hx
  have hx:=HX.out
  obtain ⟨p0,p1,p2,p3,p4,p5⟩:=HP.out.cells
  dsimp only at p0 p1 p2 p3 p4 p5
  go_wp2_with (refine wpList_load_opG otP (by kernel_rfl) _ rfl _ rfl _ _ _ (by assumption) ?_)
  refine (alone3_any x q c _ HA.out).mono ?_
  rintro e w1 ⟨rfl,hb1⟩
  replace HB:=Hi (HB.out.trans (hb1.mono HB.out.size))
  replace HX:=Hi (HX.out.kept hb1)
  replace HA:=Hi (HA.out.kept hb1)
  replace HP:=Hi (HP.out.kept hb1)
  clear hb1 hx
  have hx:=HX.out
  obtain ⟨p0,p1,p2,p3,p4,p5⟩:=HP.out.cells
  dsimp only at p0 p1 p2 p3 p4 p5
  go_wp2
  go_ret
  exact ⟨ret_b (HR.out.trans HV.out).symm,HB.out⟩
theorem right4_any (x:Opp) (q:Option Addr) (c:Nat) (w:World) (hs:Sz x) (ha:Pa w x q c) (hk:x.k=4):Calls Tryz.prog 84 #[.agg (opA x q c)] w fun e w'=>e=.returned (.bool (rightO x))∧Below w.heap.size w w':=by
 obtain ⟨HX,HA,HB⟩:=right_start w x q c ha
 have HR:=Hi (rightO_of (x:=x) hk (by decide) (by decide))
 have HK:=Hi hk
 have HNA:=Hi (fun W=>named_any x.k W)
 rw [hk] at HNA
 obtain ⟨x0,-⟩:=HX.out.cells
 rw [hk] at x0
 clear hk
 cases hf:fitO ⟨true,false,false,false,false,true⟩ x with
 | false =>
  have HV:=Hi (show (fitO (prt 4) x && aloneO (prt 4) x)=false by rw [show fitO (prt 4) x=false from hf]; rfl)
  have HF:=Hi hf
  clear hf
  go_enter Tryz.func84,Tryz.ntmps84
  go_wp2_with fail
  refine (HNA.out _).mono ?_
  rintro e w1 ⟨rfl,hb1⟩
  replace HX:=Hi ((HX.out.kept hb1).kept ((Below.refl _ _).alloc (Nat.le_refl _) (.cells #[.bool true,.bool false,.bool false,.bool false,.bool false,.bool true] 156)))
  replace HA:=Hi ((HA.out.kept hb1).kept ((Below.refl _ _).alloc (Nat.le_refl _) (.cells #[.bool true,.bool false,.bool false,.bool false,.bool false,.bool true] 156)))
  replace HB:=Hi (HB.out.trans (hb1.mono HB.out.size))
  replace HB:=Hi (HB.out.alloc HB.out.size (.cells #[.bool true,.bool false,.bool false,.bool false,.bool false,.bool true] 156))
  have HP:=Hi (show PrAt (w1.alloc (.cells #[.bool true,.bool false,.bool false,.bool false,.bool false,.bool true] 156)) w1.heap.size ⟨true,false,false,false,false,true⟩ from PrAt.new w1 ⟨true,false,false,false,false,true⟩ 156)
  have hpr:prA (prt 4)=#[.bool true,.bool false,.bool false,.bool false,.bool false,.bool true]:=rfl
  clear hb1 x0
  have hx:=HX.out
  go_wp2_with (refine wpList_load_opG otP (by kernel_rfl) _ rfl _ rfl _ _ _ (by assumption) ?_)
  refine (fit4_any x q c _ hs HA.out).mono ?_
  rw [HF.out]
  rintro e w1 ⟨rfl,hb1⟩
  replace HB:=Hi (HB.out.trans (hb1.mono HB.out.size))
  replace HX:=Hi (HX.out.kept hb1)
  replace HA:=Hi (HA.out.kept hb1)
  replace HP:=Hi (HP.out.kept hb1)
  clear hb1 hx
  have hx:=HX.out
  obtain ⟨p0,p1,p2,p3,p4,p5⟩:=HP.out.cells
  dsimp only at p0 p1 p2 p3 p4 p5
  go_wp2
  go_ret
  exact ⟨ret_b (HR.out.trans HV.out).symm,HB.out⟩
 | true =>
  have HV:=Hi (show (fitO (prt 4) x && aloneO (prt 4) x)=aloneO ⟨true,false,false,false,false,true⟩ x by rw [show fitO (prt 4) x=true from hf]; rfl)
  have HF:=Hi hf
  clear hf
  go_enter Tryz.func84,Tryz.ntmps84
  go_wp2_with fail
  refine (HNA.out _).mono ?_
  rintro e w1 ⟨rfl,hb1⟩
  replace HX:=Hi ((HX.out.kept hb1).kept ((Below.refl _ _).alloc (Nat.le_refl _) (.cells #[.bool true,.bool false,.bool false,.bool false,.bool false,.bool true] 156)))
  replace HA:=Hi ((HA.out.kept hb1).kept ((Below.refl _ _).alloc (Nat.le_refl _) (.cells #[.bool true,.bool false,.bool false,.bool false,.bool false,.bool true] 156)))
  replace HB:=Hi (HB.out.trans (hb1.mono HB.out.size))
  replace HB:=Hi (HB.out.alloc HB.out.size (.cells #[.bool true,.bool false,.bool false,.bool false,.bool false,.bool true] 156))
  have HP:=Hi (show PrAt (w1.alloc (.cells #[.bool true,.bool false,.bool false,.bool false,.bool false,.bool true] 156)) w1.heap.size ⟨true,false,false,false,false,true⟩ from PrAt.new w1 ⟨true,false,false,false,false,true⟩ 156)
  have hpr:prA (prt 4)=#[.bool true,.bool false,.bool false,.bool false,.bool false,.bool true]:=rfl
  clear hb1 x0
  have hx:=HX.out
  go_wp2_with (refine wpList_load_opG otP (by kernel_rfl) _ rfl _ rfl _ _ _ (by assumption) ?_)
  refine (fit4_any x q c _ hs HA.out).mono ?_
  rw [HF.out]
  rintro e w1 ⟨rfl,hb1⟩
  replace HB:=Hi (HB.out.trans (hb1.mono HB.out.size))
  replace HX:=Hi (HX.out.kept hb1)
  replace HA:=Hi (HA.out.kept hb1)
  replace HP:=Hi (HP.out.kept hb1)
  clear hb1 hx
  have hx:=HX.out
  obtain ⟨p0,p1,p2,p3,p4,p5⟩:=HP.out.cells
  dsimp only at p0 p1 p2 p3 p4 p5
  go_wp2_with (refine wpList_load_opG otP (by kernel_rfl) _ rfl _ rfl _ _ _ (by assumption) ?_)
  refine (alone4_any x q c _ HA.out).mono ?_
  rintro e w1 ⟨rfl,hb1⟩
  replace HB:=Hi (HB.out.trans (hb1.mono HB.out.size))
  replace HX:=Hi (HX.out.kept hb1)
  replace HA:=Hi (HA.out.kept hb1)
  replace HP:=Hi (HP.out.kept hb1)
  clear hb1 hx
  have hx:=HX.out
  obtain ⟨p0,p1,p2,p3,p4,p5⟩:=HP.out.cells
  dsimp only at p0 p1 p2 p3 p4 p5
  go_wp2
  go_ret
  exact ⟨ret_b (HR.out.trans HV.out).symm,HB.out⟩
theorem right5_any (x:Opp) (q:Option Addr) (c:Nat) (w:World) (hs:Sz x) (ha:Pa w x q c) (hk:x.k=5):Calls Tryz.prog 84 #[.agg (opA x q c)] w fun e w'=>e=.returned (.bool (rightO x))∧Below w.heap.size w w':=by
 obtain ⟨HX,HA,HB⟩:=right_start w x q c ha
 have HR:=Hi (rightO_of (x:=x) hk (by decide) (by decide))
 have HK:=Hi hk
 have HNA:=Hi (fun W=>named_any x.k W)
 rw [hk] at HNA
 obtain ⟨x0,-⟩:=HX.out.cells
 rw [hk] at x0
 clear hk
 cases hf:fitO ⟨true,false,true,false,false,false⟩ x with
 | false =>
  have HV:=Hi (show (fitO (prt 5) x && aloneO (prt 5) x)=false by rw [show fitO (prt 5) x=false from hf]; rfl)
  have HF:=Hi hf
  clear hf
  go_enter Tryz.func84,Tryz.ntmps84
  go_wp2_with fail
  refine (HNA.out _).mono ?_
  rintro e w1 ⟨rfl,hb1⟩
  replace HX:=Hi ((HX.out.kept hb1).kept ((Below.refl _ _).alloc (Nat.le_refl _) (.cells #[.bool true,.bool false,.bool true,.bool false,.bool false,.bool false] 156)))
  replace HA:=Hi ((HA.out.kept hb1).kept ((Below.refl _ _).alloc (Nat.le_refl _) (.cells #[.bool true,.bool false,.bool true,.bool false,.bool false,.bool false] 156)))
  replace HB:=Hi (HB.out.trans (hb1.mono HB.out.size))
  replace HB:=Hi (HB.out.alloc HB.out.size (.cells #[.bool true,.bool false,.bool true,.bool false,.bool false,.bool false] 156))
  have HP:=Hi (show PrAt (w1.alloc (.cells #[.bool true,.bool false,.bool true,.bool false,.bool false,.bool false] 156)) w1.heap.size ⟨true,false,true,false,false,false⟩ from PrAt.new w1 ⟨true,false,true,false,false,false⟩ 156)
  have hpr:prA (prt 5)=#[.bool true,.bool false,.bool true,.bool false,.bool false,.bool false]:=rfl
  clear hb1 x0
  have hx:=HX.out
  go_wp2_with (refine wpList_load_opG otP (by kernel_rfl) _ rfl _ rfl _ _ _ (by assumption) ?_)
  refine (fit5_any x q c _ hs HA.out).mono ?_
  rw [HF.out]
  rintro e w1 ⟨rfl,hb1⟩
  replace HB:=Hi (HB.out.trans (hb1.mono HB.out.size))
  replace HX:=Hi (HX.out.kept hb1)
  replace HA:=Hi (HA.out.kept hb1)
  replace HP:=Hi (HP.out.kept hb1)
  clear hb1 hx
  have hx:=HX.out
  obtain ⟨p0,p1,p2,p3,p4,p5⟩:=HP.out.cells
  dsimp only at p0 p1 p2 p3 p4 p5
  go_wp2
  go_ret
  exact ⟨ret_b (HR.out.trans HV.out).symm,HB.out⟩
 | true =>
  have HV:=Hi (show (fitO (prt 5) x && aloneO (prt 5) x)=aloneO ⟨true,false,true,false,false,false⟩ x by rw [show fitO (prt 5) x=true from hf]; rfl)
  have HF:=Hi hf
  clear hf
  go_enter Tryz.func84,Tryz.ntmps84
  go_wp2_with fail
  refine (HNA.out _).mono ?_
  rintro e w1 ⟨rfl,hb1⟩
  replace HX:=Hi ((HX.out.kept hb1).kept ((Below.refl _ _).alloc (Nat.le_refl _) (.cells #[.bool true,.bool false,.bool true,.bool false,.bool false,.bool false] 156)))
  replace HA:=Hi ((HA.out.kept hb1).kept ((Below.refl _ _).alloc (Nat.le_refl _) (.cells #[.bool true,.bool false,.bool true,.bool false,.bool false,.bool false] 156)))
  replace HB:=Hi (HB.out.trans (hb1.mono HB.out.size))
  replace HB:=Hi (HB.out.alloc HB.out.size (.cells #[.bool true,.bool false,.bool true,.bool false,.bool false,.bool false] 156))
  have HP:=Hi (show PrAt (w1.alloc (.cells #[.bool true,.bool false,.bool true,.bool false,.bool false,.bool false] 156)) w1.heap.size ⟨true,false,true,false,false,false⟩ from PrAt.new w1 ⟨true,false,true,false,false,false⟩ 156)
  have hpr:prA (prt 5)=#[.bool true,.bool false,.bool true,.bool false,.bool false,.bool false]:=rfl
  clear hb1 x0
  have hx:=HX.out
  go_wp2_with (refine wpList_load_opG otP (by kernel_rfl) _ rfl _ rfl _ _ _ (by assumption) ?_)
  refine (fit5_any x q c _ hs HA.out).mono ?_
  rw [HF.out]
  rintro e w1 ⟨rfl,hb1⟩
  replace HB:=Hi (HB.out.trans (hb1.mono HB.out.size))
  replace HX:=Hi (HX.out.kept hb1)
  replace HA:=Hi (HA.out.kept hb1)
  replace HP:=Hi (HP.out.kept hb1)
  clear hb1 hx
  have hx:=HX.out
  obtain ⟨p0,p1,p2,p3,p4,p5⟩:=HP.out.cells
  dsimp only at p0 p1 p2 p3 p4 p5
  go_wp2_with (refine wpList_load_opG otP (by kernel_rfl) _ rfl _ rfl _ _ _ (by assumption) ?_)
  refine (alone5_any x q c _ HA.out).mono ?_
  rintro e w1 ⟨rfl,hb1⟩
  replace HB:=Hi (HB.out.trans (hb1.mono HB.out.size))
  replace HX:=Hi (HX.out.kept hb1)
  replace HA:=Hi (HA.out.kept hb1)
  replace HP:=Hi (HP.out.kept hb1)
  clear hb1 hx
  have hx:=HX.out
  obtain ⟨p0,p1,p2,p3,p4,p5⟩:=HP.out.cells
  dsimp only at p0 p1 p2 p3 p4 p5
  go_wp2
  go_ret
  exact ⟨ret_b (HR.out.trans HV.out).symm,HB.out⟩
theorem right6_any (x:Opp) (q:Option Addr) (c:Nat) (w:World) (hs:Sz x) (ha:Pa w x q c) (hk:x.k=6):Calls Tryz.prog 84 #[.agg (opA x q c)] w fun e w'=>e=.returned (.bool (rightO x))∧Below w.heap.size w w':=by
 obtain ⟨HX,HA,HB⟩:=right_start w x q c ha
 have HR:=Hi (rightO_of (x:=x) hk (by decide) (by decide))
 have HK:=Hi hk
 have HNA:=Hi (fun W=>named_any x.k W)
 rw [hk] at HNA
 obtain ⟨x0,-⟩:=HX.out.cells
 rw [hk] at x0
 clear hk
 cases hf:fitO ⟨true,false,false,true,true,false⟩ x with
 | false =>
  have HV:=Hi (show (fitO (prt 6) x && aloneO (prt 6) x)=false by rw [show fitO (prt 6) x=false from hf]; rfl)
  have HF:=Hi hf
  clear hf
  go_enter Tryz.func84,Tryz.ntmps84
  go_wp2_with fail
  refine (HNA.out _).mono ?_
  rintro e w1 ⟨rfl,hb1⟩
  replace HX:=Hi ((HX.out.kept hb1).kept ((Below.refl _ _).alloc (Nat.le_refl _) (.cells #[.bool true,.bool false,.bool false,.bool true,.bool true,.bool false] 156)))
  replace HA:=Hi ((HA.out.kept hb1).kept ((Below.refl _ _).alloc (Nat.le_refl _) (.cells #[.bool true,.bool false,.bool false,.bool true,.bool true,.bool false] 156)))
  replace HB:=Hi (HB.out.trans (hb1.mono HB.out.size))
  replace HB:=Hi (HB.out.alloc HB.out.size (.cells #[.bool true,.bool false,.bool false,.bool true,.bool true,.bool false] 156))
  have HP:=Hi (show PrAt (w1.alloc (.cells #[.bool true,.bool false,.bool false,.bool true,.bool true,.bool false] 156)) w1.heap.size ⟨true,false,false,true,true,false⟩ from PrAt.new w1 ⟨true,false,false,true,true,false⟩ 156)
  have hpr:prA (prt 6)=#[.bool true,.bool false,.bool false,.bool true,.bool true,.bool false]:=rfl
  clear hb1 x0
  have hx:=HX.out
  go_wp2_with (refine wpList_load_opG otP (by kernel_rfl) _ rfl _ rfl _ _ _ (by assumption) ?_)
  refine (fit6_any x q c _ hs HA.out).mono ?_
  rw [HF.out]
  rintro e w1 ⟨rfl,hb1⟩
  replace HB:=Hi (HB.out.trans (hb1.mono HB.out.size))
  replace HX:=Hi (HX.out.kept hb1)
  replace HA:=Hi (HA.out.kept hb1)
  replace HP:=Hi (HP.out.kept hb1)
  clear hb1 hx
  have hx:=HX.out
  obtain ⟨p0,p1,p2,p3,p4,p5⟩:=HP.out.cells
  dsimp only at p0 p1 p2 p3 p4 p5
  go_wp2
  go_ret
  exact ⟨ret_b (HR.out.trans HV.out).symm,HB.out⟩
 | true =>
  have HV:=Hi (show (fitO (prt 6) x && aloneO (prt 6) x)=aloneO ⟨true,false,false,true,true,false⟩ x by rw [show fitO (prt 6) x=true from hf]; rfl)
  have HF:=Hi hf
  clear hf
  go_enter Tryz.func84,Tryz.ntmps84
  go_wp2_with fail
  refine (HNA.out _).mono ?_
  rintro e w1 ⟨rfl,hb1⟩
  replace HX:=Hi ((HX.out.kept hb1).kept ((Below.refl _ _).alloc (Nat.le_refl _) (.cells #[.bool true,.bool false,.bool false,.bool true,.bool true,.bool false] 156)))
  replace HA:=Hi ((HA.out.kept hb1).kept ((Below.refl _ _).alloc (Nat.le_refl _) (.cells #[.bool true,.bool false,.bool false,.bool true,.bool true,.bool false] 156)))
  replace HB:=Hi (HB.out.trans (hb1.mono HB.out.size))
  replace HB:=Hi (HB.out.alloc HB.out.size (.cells #[.bool true,.bool false,.bool false,.bool true,.bool true,.bool false] 156))
  have HP:=Hi (show PrAt (w1.alloc (.cells #[.bool true,.bool false,.bool false,.bool true,.bool true,.bool false] 156)) w1.heap.size ⟨true,false,false,true,true,false⟩ from PrAt.new w1 ⟨true,false,false,true,true,false⟩ 156)
  have hpr:prA (prt 6)=#[.bool true,.bool false,.bool false,.bool true,.bool true,.bool false]:=rfl
  clear hb1 x0
  have hx:=HX.out
  go_wp2_with (refine wpList_load_opG otP (by kernel_rfl) _ rfl _ rfl _ _ _ (by assumption) ?_)
  refine (fit6_any x q c _ hs HA.out).mono ?_
  rw [HF.out]
  rintro e w1 ⟨rfl,hb1⟩
  replace HB:=Hi (HB.out.trans (hb1.mono HB.out.size))
  replace HX:=Hi (HX.out.kept hb1)
  replace HA:=Hi (HA.out.kept hb1)
  replace HP:=Hi (HP.out.kept hb1)
  clear hb1 hx
  have hx:=HX.out
  obtain ⟨p0,p1,p2,p3,p4,p5⟩:=HP.out.cells
  dsimp only at p0 p1 p2 p3 p4 p5
  go_wp2_with (refine wpList_load_opG otP (by kernel_rfl) _ rfl _ rfl _ _ _ (by assumption) ?_)
  refine (alone6_any x q c _ HA.out).mono ?_
  rintro e w1 ⟨rfl,hb1⟩
  replace HB:=Hi (HB.out.trans (hb1.mono HB.out.size))
  replace HX:=Hi (HX.out.kept hb1)
  replace HA:=Hi (HA.out.kept hb1)
  replace HP:=Hi (HP.out.kept hb1)
  clear hb1 hx
  have hx:=HX.out
  obtain ⟨p0,p1,p2,p3,p4,p5⟩:=HP.out.cells
  dsimp only at p0 p1 p2 p3 p4 p5
  go_wp2
  go_ret
  exact ⟨ret_b (HR.out.trans HV.out).symm,HB.out⟩
theorem oright_any (x:Opp) (q:Option Addr) (c:Nat) (w:World) (hs:Sz x) (ha:Pa w x q c):Calls Tryz.prog 84 #[.agg (opA x q c)] w fun e w'=>e=.returned (.bool (rightO x))∧Below w.heap.size w w':=by
 by_cases h1:x.k=1
 ·exact right1_any x q c w hs ha h1
 by_cases h2:x.k=2
 ·exact right2_any x q c w hs ha h2
 by_cases h3:x.k=3
 ·exact right3_any x q c w hs ha h3
 by_cases h4:x.k=4
 ·exact right4_any x q c w hs ha h4
 by_cases h5:x.k=5
 ·exact right5_any x q c w hs ha h5
 by_cases h6:x.k=6
 ·exact right6_any x q c w hs ha h6
 obtain ⟨HX,HA,HB⟩:=right_start w x q c ha
 have HR:=Hi (rightO_none h1 h2 h3 h4 h5 h6)
 have HNA:=Hi (fun W=>named_any x.k W)
 rw [prt_none h1 h2 h3 h4 h5 h6] at HNA
 obtain ⟨x0,-⟩:=HX.out.cells
 clear h1 h2 h3 h4 h5 h6 ha hs
 go_enter Tryz.func84,Tryz.ntmps84
 go_wp2_with fail
 refine (HNA.out _).mono ?_
 rintro e w1 ⟨rfl,hb1⟩
 replace HB:=Hi (HB.out.trans (hb1.mono HB.out.size))
 replace HB:=Hi (HB.out.alloc HB.out.size (.cells #[.bool false,.bool false,.bool false,.bool false,.bool false,.bool false] 156))
 have hpr:prA ⟨false,false,false,false,false,false⟩=#[.bool false,.bool false,.bool false,.bool false,.bool false,.bool false]:=rfl
 clear hb1 x0
 go_wp2
 go_ret
 exact ⟨ret_b HR.out.symm,HB.out⟩
end Go.Proofs.YtfgnmnkihbgjnaaGreat
