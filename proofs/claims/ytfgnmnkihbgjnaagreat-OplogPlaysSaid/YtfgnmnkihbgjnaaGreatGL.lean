/-
  THE DOCUMENT's small calls over ops: Right of stamps and of keys, Node, Root, Trash, Place, path.
  No conditions but sizes.
  THE DOCUMENT's named: an op with just what its kind names.
  No conditions.
  THE DOCUMENT's Same over ops.
  No conditions but sizes.
-/
import Derived.Test.YtfgnmnkihbgjnaaGreatSh
import Derived.Test.YtfgnmnkihbgjnaaGreatGD
import Derived.Test.YtfgnmnkihbgjnaaGreatGK
import Derived.Test.YtfgnmnkihbgjnaaGreatOSame
set_option maxRecDepth 100000
set_option maxHeartbeats 8000000
namespace Go.Proofs.YtfgnmnkihbgjnaaGreat
open Go.RowKit
theorem rsRight_any (t r:Int) (w:World) :
  Calls Tryz.prog 110 #[.agg #[.int .i64 t,.int .i64 r]] w fun e w'=>e=.returned (.bool (rightB t r))∧Below w.heap.size w w':=by
 have hb:=(Below.refl w.heap.size w).alloc (Nat.le_refl _) (.cells #[.int .i64 t,.int .i64 r] 50)
 have HB:=Hi hb
 clear hb
 by_cases h0:0≤t
 ·by_cases h1:t≤1099511627776
  ·by_cases h2:0≤r
   ·by_cases h3:r<16
    ·have HR:=Hi (show rightB t r=true from decide_eq_true ⟨h0,h1,h2,by omega⟩)
     go_enter Tryz.func110,Tryz.ntmps110
     go_wp2
     go_ret
     rw [HR.out]
     exact ⟨rfl,HB.out⟩
    ·have HR:=Hi (show rightB t r=false from decide_eq_false (fun h=>h3 (by omega)))
     have d3:decide (r<16)=false:=decide_eq_false h3
     go_enter Tryz.func110,Tryz.ntmps110
     go_wp2
     go_ret
     rw [HR.out]
     exact ⟨rfl,HB.out⟩
   ·have HR:=Hi (show rightB t r=false from decide_eq_false (fun h=>h2 h.2.2.1))
    have d3:decide (0≤r)=false:=decide_eq_false h2
    go_enter Tryz.func110,Tryz.ntmps110
    go_wp2
    go_ret
    rw [HR.out]
    exact ⟨rfl,HB.out⟩
  ·have HR:=Hi (show rightB t r=false from decide_eq_false (fun h=>h1 h.2.1))
   have d3:decide (t≤1099511627776)=false:=decide_eq_false h1
   go_enter Tryz.func110,Tryz.ntmps110
   go_wp2
   go_ret
   rw [HR.out]
   exact ⟨rfl,HB.out⟩
 ·have HR:=Hi (show rightB t r=false from decide_eq_false (fun h=>h0 h.1))
  have d3:decide (0≤t)=false:=decide_eq_false h0
  go_enter Tryz.func110,Tryz.ntmps110
  go_wp2
  go_ret
  rw [HR.out]
  exact ⟨rfl,HB.out⟩
theorem rkRight_any (k:ByteArray) (w:World) (_:k.size≤140737488355328):Calls Tryz.prog 86 #[.string k] w fun e w'=>e=.returned (.bool (Km.rightB k.data.toList))∧w=w':=by
 by_cases h0:k.size=0
 ·have HR:=Hi (right_no (k:=k) (by omega))
  go_enter Tryz.func86,Tryz.ntmps86
  go_wp2
  go_ret
  exact ⟨ret_bool HR.out.symm,rfl⟩
 ·by_cases h1:k.size≤24
  ·have HR:=Hi (right_last (k:=k) (by omega) h1)
   go_enter Tryz.func86,Tryz.ntmps86
   go_wp2
   go_ret
   exact ⟨ret_bool HR.out.symm,rfl⟩
  ·have HR:=Hi (right_no (k:=k) (by omega))
   go_enter Tryz.func86,Tryz.ntmps86
   go_wp2
   go_ret
   exact ⟨ret_bool HR.out.symm,rfl⟩
theorem rnode_any (t r:Int) (w:World):Calls Tryz.prog 89 #[.agg #[.int .i64 t,.int .i64 r]] w fun e w'=>e=.returned (.bool (okNode t r))∧Below w.heap.size w w':=by
 have HB:=Hi ((Below.refl w.heap.size w).alloc (Nat.le_refl _) (.cells #[.int .i64 t,.int .i64 r] 50))
 have HT:=Hi (TwoAt.start w t r)
 cases hR:rightB t r with
 | false =>
  have HR:=Hi (show okNode t r=false by unfold okNode; rw [hR]; rfl)
  have HRB:=Hi hR
  clear hR
  go_enter Tryz.func89,Tryz.ntmps89
  go_wp2_with fail
  refine (rsRight_any t r _).mono ?_
  rw [HRB.out]
  rintro e w1 ⟨rfl,hb1⟩
  have HB1:=Hi (HB.out.trans (hb1.mono (by simp)))
  clear hb1
  go_wp2
  go_ret
  exact ⟨ret_b HR.out.symm,HB1.out⟩
 | true =>
  have HRB:=Hi hR
  have HR:=Hi (show okNode t r=decide (1≤t) by unfold okNode; rw [hR]; rfl)
  clear hR
  go_enter Tryz.func89,Tryz.ntmps89
  go_wp2_with fail
  refine (rsRight_any t r _).mono ?_
  rw [HRB.out]
  rintro e w1 ⟨rfl,hb1⟩
  have HB1:=Hi (HB.out.trans (hb1.mono (by simp)))
  have c0:=(HT.out.kept hb1).cell0
  clear hb1
  go_wp2
  go_ret
  exact ⟨ret_b HR.out.symm,HB1.out⟩
theorem rroot_any (w:World):Calls Tryz.prog 107 #[] w fun e w'=>e=.returned (.agg #[.int .i64 0,.int .i64 0])∧Below w.heap.size w w':=by
 have hb:=(Below.refl w.heap.size w).alloc (Nat.le_refl _) (.cells #[.int .i64 0,.int .i64 0] 50)
 have HB:=Hi hb
 clear hb
 go_enter Tryz.func107,Tryz.ntmps107
 go_wp2
 refine bodyPost_ret (v:=.agg #[.int .i64 0,.int .i64 0]) (by simp [results,Tryz.results107,go_sem]) rfl ?_
 exact ⟨rfl,HB.out⟩
theorem rtrash_any (w:World):Calls Tryz.prog 108 #[] w fun e w'=>e=.returned (.agg #[.int .i64 0,.int .i64 1])∧Below w.heap.size w w':=by
 have hb:=(Below.refl w.heap.size w).alloc (Nat.le_refl _) (.cells #[.int .i64 0,.int .i64 1] 50)
 have HB:=Hi hb
 clear hb
 go_enter Tryz.func108,Tryz.ntmps108
 go_wp2
 refine bodyPost_ret (v:=.agg #[.int .i64 0,.int .i64 1]) (by simp [results,Tryz.results108,go_sem]) rfl ?_
 exact ⟨rfl,HB.out⟩
theorem rplace_any (t r:Int) (w:World):Calls Tryz.prog 87 #[.agg #[.int .i64 t,.int .i64 r]] w fun e w'=>e=.returned (.bool (okPlace t r))∧Below w.heap.size w w':=by
 have HB:=Hi ((Below.refl w.heap.size w).alloc (Nat.le_refl _) (.cells #[.int .i64 t,.int .i64 r] 50))
 have HT:=Hi (TwoAt.start w t r)
 have HN:=Hi (fun W=>rnode_any t r W)
 have c0:=HT.out.cell0
 have c1:=HT.out.cell1
 cases hR:okNode t r with
 | true =>
  have HR:=Hi (show okPlace t r=true by unfold okPlace; rw [hR]; rfl)
  rw [hR] at HN
  clear hR
  go_enter Tryz.func87,Tryz.ntmps87
  go_upto_region 1 with fail
  refine wp_region_held_drew (S:=Bel (w.alloc (.cells #[.int .i64 t,.int .i64 r] 50))) (by kernel_rfl) (Bel.start (w.alloc (.cells #[.int .i64 t,.int .i64 r] 50))) (fun hS=>?_)
  refine tK 0 (v:=?_) rfl ?_ hS ?_
  rotate_left
  ·intro W hSW
   have c0':=hSW.get c0
   have c1':=hSW.get c1
   go_simp
   all_goals with_reducible rfl
  refine rD 1 rfl (fun K hK=>?_)
  go_simp
  go_wp2_with ((go_at_call 89; refine (HN.out _).mono ?_; rintro e wn ⟨rfl,hbn⟩))
  refine hK.out _ _ (hS.trans hbn) (fun hS=>?_)
  clear hK K
  refine tX 2 rfl hS ?_
  go_simp
  refine tU 3 rfl hS ?_
  refine tU 4 rfl hS ?_
  refine tU 5 rfl hS ?_
  refine tX 6 rfl hS ?_
  refine tX 7 rfl hS ?_
  go_simp
  refine tU 8 rfl hS ?_
  refine tU 9 rfl hS ?_
  refine tU 10 rfl hS ?_
  refine tX 11 rfl hS ?_
  refine tX 12 rfl hS ?_
  go_simp
  have HS:=Hi hS
  refine wpAnyH_done (by kernel_rfl) ?_ _
  go_wp2
  go_ret
  exact ⟨ret_b HR.out.symm,HB.out.trans (Below.mono HS.out HB.out.size)⟩
 | false =>
  have HRO:=Hi (show okPlace t r=(isZ t r || isT t r) by unfold okPlace; rw [hR]; rfl)
  rw [hR] at HN
  clear hR
  by_cases ht:t=0
  ·subst ht
   by_cases hr:r=0
   ·subst hr
    have HR:=Hi (HRO.out.trans (show (isZ 0 0 || isT 0 0)=true from rfl))
    go_enter Tryz.func87,Tryz.ntmps87
    go_upto_region 1 with fail
    refine wp_region_held_drew (S:=Bel (w.alloc (.cells #[.int .i64 0,.int .i64 0] 50))) (by kernel_rfl) (Bel.start (w.alloc (.cells #[.int .i64 0,.int .i64 0] 50))) (fun hS=>?_)
    refine tK 0 (v:=?_) rfl ?_ hS ?_
    rotate_left
    ·intro W hSW
     have c0':=hSW.get c0
     have c1':=hSW.get c1
     go_simp
     all_goals with_reducible rfl
    refine rD 1 rfl (fun K hK=>?_)
    go_simp
    go_wp2_with ((go_at_call 89; refine (HN.out _).mono ?_; rintro e wn ⟨rfl,hbn⟩))
    refine hK.out _ _ (hS.trans hbn) (fun hS=>?_)
    clear hK K
    refine tX 2 rfl hS ?_
    refine tK 3 (v:=?_) rfl ?_ hS ?_
    rotate_left
    ·intro W hSW
     have c0':=hSW.get c0
     have c1':=hSW.get c1
     go_simp
     all_goals with_reducible rfl
    go_simp
    refine rD 4 rfl (fun K hK=>?_)
    go_simp
    go_wp2_with ((go_at_call 107; refine (rroot_any _).mono ?_; rintro e wn ⟨rfl,hbn⟩))
    refine hK.out _ _ (hS.trans hbn) (fun hS=>?_)
    clear hK K
    refine tX 5 rfl hS ?_
    refine tX 6 rfl hS ?_
    refine tX 7 rfl hS ?_
    go_simp
    refine tU 8 rfl hS ?_
    refine tU 9 rfl hS ?_
    refine tU 10 rfl hS ?_
    refine tX 11 rfl hS ?_
    refine tX 12 rfl hS ?_
    go_simp
    have HS:=Hi hS
    refine wpAnyH_done (by kernel_rfl) ?_ _
    go_wp2
    go_ret
    exact ⟨ret_b HR.out.symm,HB.out.trans (Below.mono HS.out HB.out.size)⟩
   ·have d0:(r == 0)=false:=by simpa using hr
    by_cases hr1:r=1
    ·subst hr1
     have HR:=Hi (HRO.out.trans (show (isZ 0 1 || isT 0 1)=true from rfl))
     go_enter Tryz.func87,Tryz.ntmps87
     go_upto_region 1 with fail
     refine wp_region_held_drew (S:=Bel (w.alloc (.cells #[.int .i64 0,.int .i64 1] 50))) (by kernel_rfl) (Bel.start (w.alloc (.cells #[.int .i64 0,.int .i64 1] 50))) (fun hS=>?_)
     refine tK 0 (v:=?_) rfl ?_ hS ?_
     rotate_left
     ·intro W hSW
      have c0':=hSW.get c0
      have c1':=hSW.get c1
      go_simp
      all_goals with_reducible rfl
     refine rD 1 rfl (fun K hK=>?_)
     go_simp
     go_wp2_with ((go_at_call 89; refine (HN.out _).mono ?_; rintro e wn ⟨rfl,hbn⟩))
     refine hK.out _ _ (hS.trans hbn) (fun hS=>?_)
     clear hK K
     refine tX 2 rfl hS ?_
     refine tK 3 (v:=?_) rfl ?_ hS ?_
     rotate_left
     ·intro W hSW
      have c0':=hSW.get c0
      have c1':=hSW.get c1
      go_simp
      all_goals with_reducible rfl
     go_simp
     refine rD 4 rfl (fun K hK=>?_)
     go_simp
     go_wp2_with ((go_at_call 107; refine (rroot_any _).mono ?_; rintro e wn ⟨rfl,hbn⟩))
     refine hK.out _ _ (hS.trans hbn) (fun hS=>?_)
     clear hK K
     refine tX 5 rfl hS ?_
     refine tX 6 rfl hS ?_
     refine tX 7 rfl hS ?_
     go_simp
     refine tK 8 (v:=?_) rfl ?_ hS ?_
     rotate_left
     ·intro W hSW
      have c0':=hSW.get c0
      have c1':=hSW.get c1
      go_simp
      all_goals with_reducible rfl
     refine rD 9 rfl (fun K hK=>?_)
     go_simp
     go_wp2_with ((go_at_call 108; refine (rtrash_any _).mono ?_; rintro e wn ⟨rfl,hbn⟩))
     refine hK.out _ _ (hS.trans hbn) (fun hS=>?_)
     clear hK K
     refine tX 10 rfl hS ?_
     refine tX 11 rfl hS ?_
     refine tX 12 rfl hS ?_
     go_simp
     have HS:=Hi hS
     refine wpAnyH_done (by kernel_rfl) ?_ _
     go_wp2
     go_ret
     exact ⟨ret_b HR.out.symm,HB.out.trans (Below.mono HS.out HB.out.size)⟩
    ·have d1:(r == 1)=false:=by simpa using hr1
     have HR:=Hi (HRO.out.trans (show (isZ 0 r || isT 0 r)=false by unfold isZ isT; rw [d0,d1]; rfl))
     clear hr hr1
     go_enter Tryz.func87,Tryz.ntmps87
     go_upto_region 1 with fail
     refine wp_region_held_drew (S:=Bel (w.alloc (.cells #[.int .i64 0,.int .i64 r] 50))) (by kernel_rfl) (Bel.start (w.alloc (.cells #[.int .i64 0,.int .i64 r] 50))) (fun hS=>?_)
     refine tK 0 (v:=?_) rfl ?_ hS ?_
     rotate_left
     ·intro W hSW
      have c0':=hSW.get c0
      have c1':=hSW.get c1
      go_simp
      all_goals with_reducible rfl
     refine rD 1 rfl (fun K hK=>?_)
     go_simp
     go_wp2_with ((go_at_call 89; refine (HN.out _).mono ?_; rintro e wn ⟨rfl,hbn⟩))
     refine hK.out _ _ (hS.trans hbn) (fun hS=>?_)
     clear hK K
     refine tX 2 rfl hS ?_
     refine tK 3 (v:=?_) rfl ?_ hS ?_
     rotate_left
     ·intro W hSW
      have c0':=hSW.get c0
      have c1':=hSW.get c1
      go_simp
      all_goals with_reducible rfl
     go_simp
     refine rD 4 rfl (fun K hK=>?_)
     go_simp
     go_wp2_with ((go_at_call 107; refine (rroot_any _).mono ?_; rintro e wn ⟨rfl,hbn⟩))
     refine hK.out _ _ (hS.trans hbn) (fun hS=>?_)
     clear hK K
     refine tX 5 rfl hS ?_
     refine tX 6 rfl hS ?_
     refine tX 7 rfl hS ?_
     go_simp
     refine tK 8 (v:=?_) rfl ?_ hS ?_
     rotate_left
     ·intro W hSW
      have c0':=hSW.get c0
      have c1':=hSW.get c1
      go_simp
      all_goals with_reducible rfl
     refine rD 9 rfl (fun K hK=>?_)
     go_simp
     go_wp2_with ((go_at_call 108; refine (rtrash_any _).mono ?_; rintro e wn ⟨rfl,hbn⟩))
     refine hK.out _ _ (hS.trans hbn) (fun hS=>?_)
     clear hK K
     refine tX 10 rfl hS ?_
     refine tX 11 rfl hS ?_
     refine tX 12 rfl hS ?_
     go_simp
     have HS:=Hi hS
     refine wpAnyH_done (by kernel_rfl) ?_ _
     go_wp2
     go_ret
     exact ⟨ret_b HR.out.symm,HB.out.trans (Below.mono HS.out HB.out.size)⟩
  ·have d0:(t == 0)=false:=by simpa using ht
   have HR:=Hi (HRO.out.trans (show (isZ t r || isT t r)=false by unfold isZ isT; rw [d0]; rfl))
   clear ht
   go_enter Tryz.func87,Tryz.ntmps87
   go_upto_region 1 with fail
   refine wp_region_held_drew (S:=Bel (w.alloc (.cells #[.int .i64 t,.int .i64 r] 50))) (by kernel_rfl) (Bel.start (w.alloc (.cells #[.int .i64 t,.int .i64 r] 50))) (fun hS=>?_)
   refine tK 0 (v:=?_) rfl ?_ hS ?_
   rotate_left
   ·intro W hSW
    have c0':=hSW.get c0
    have c1':=hSW.get c1
    go_simp
    all_goals with_reducible rfl
   refine rD 1 rfl (fun K hK=>?_)
   go_simp
   go_wp2_with ((go_at_call 89; refine (HN.out _).mono ?_; rintro e wn ⟨rfl,hbn⟩))
   refine hK.out _ _ (hS.trans hbn) (fun hS=>?_)
   clear hK K
   refine tX 2 rfl hS ?_
   refine tK 3 (v:=?_) rfl ?_ hS ?_
   rotate_left
   ·intro W hSW
    have c0':=hSW.get c0
    have c1':=hSW.get c1
    go_simp
    all_goals with_reducible rfl
   go_simp
   refine rD 4 rfl (fun K hK=>?_)
   go_simp
   go_wp2_with ((go_at_call 107; refine (rroot_any _).mono ?_; rintro e wn ⟨rfl,hbn⟩))
   refine hK.out _ _ (hS.trans hbn) (fun hS=>?_)
   clear hK K
   refine tX 5 rfl hS ?_
   refine tX 6 rfl hS ?_
   refine tX 7 rfl hS ?_
   go_simp
   refine tK 8 (v:=?_) rfl ?_ hS ?_
   rotate_left
   ·intro W hSW
    have c0':=hSW.get c0
    have c1':=hSW.get c1
    go_simp
    all_goals with_reducible rfl
   refine rD 9 rfl (fun K hK=>?_)
   go_simp
   go_wp2_with ((go_at_call 108; refine (rtrash_any _).mono ?_; rintro e wn ⟨rfl,hbn⟩))
   refine hK.out _ _ (hS.trans hbn) (fun hS=>?_)
   clear hK K
   refine tX 10 rfl hS ?_
   refine tX 11 rfl hS ?_
   refine tX 12 rfl hS ?_
   go_simp
   have HS:=Hi hS
   refine wpAnyH_done (by kernel_rfl) ?_ _
   go_wp2
   go_ret
   exact ⟨ret_b HR.out.symm,HB.out.trans (Below.mono HS.out HB.out.size)⟩
theorem rpath_any (p:Option Addr) (c:Nat) (l:List Qm.St) (w:World) (h:Rd w p (stCells l)) (hl:l.length≤4611686018427387904) :
  Calls Tryz.prog 90 #[.slice p l.length c] w fun e w'=>e=.returned (.bool (okPath l))∧Below w.heap.size w w':=by
 have HRD:=Hi h
 by_cases h8:8<l.length
 ·have HR:=Hi (show okPath l=false by unfold okPath; rw [decide_eq_false (show ¬ l.length≤8 by omega)]; simp)
  have d0:decide ((0:Int)<(l.length:Int))=true:=decide_eq_true (by omega)
  have d1:decide ((1:Int)≤(l.length:Int))=true:=decide_eq_true (by omega)
  have d2:decide ((l.length:Int)≤8)=false:=decide_eq_false (by omega)
  clear h
  generalize l.length=n at *
  go_enter Tryz.func90,Tryz.ntmps90
  go_wp2
  go_loop [3] (fun i=>i=.int .i64 0) (fun _=>0)
  case atStart=>rfl
  case round =>
   subst hrel
   go_wp2
   go_ret
   exact ⟨ret_b HR.out.symm,Below.refl _ _⟩
 ·have d2:decide ((l.length:Int)≤8)=true:=decide_eq_true (by omega)
  clear h
  go_enter Tryz.func90,Tryz.ntmps90
  go_wp2
  go_loopw [3] (fun i wr=>∃ k:Nat,k≤l.length∧i=.int .i64 (k:Int)∧(∀ j,j<k→okNode (Qm.stOf l j).1 (Qm.stOf l j).2=true)∧Below w.heap.size w wr) (fun i _=>l.length - (intOf i).toNat)
  case atStart=>exact ⟨0,Nat.zero_le _,rfl,fun j hj=>absurd hj (Nat.not_lt_zero _),Below.refl _ _⟩
  case round =>
   obtain ⟨k,hk,rfl,ho,hbw⟩:=hrel
   have HO:=Hi ho
   have HBW:=Hi hbw
   clear ho hbw
   by_cases hlt:k<l.length
   ·obtain ⟨b,o,rfl,hb⟩:=HRD.out.addr (by rw [stCells_length]; omega)
    have d0:decide ((k:Int)<(l.length:Int))=true:=decide_eq_true (by omega)
    obtain ⟨c0,c1⟩:=(HRD.out.base HBW.out (fun a ha=>by cases ha; exact hb)).st k hlt
    have HN:=Hi (show ∀ W,Calls Tryz.prog 89 #[.agg #[.int .i64 (Qm.stOf l k).1,.int .i64 (Qm.stOf l k).2]] W fun e w'=>e=.returned (.bool (okNode (Qm.stOf l k).1 (Qm.stOf l k).2))∧Below W.heap.size W w' from fun W=>rnode_any _ _ W)
    have HNO:=Hi (fun h=>okPath_no (l:=l) hlt h)
    have HST:=Hi (show ∀ j,j<k+1→okNode (Qm.stOf l k).1 (Qm.stOf l k).2=true→okNode (Qm.stOf l j).1 (Qm.stOf l j).2=true from fun j hj he=>by
     rcases Nat.lt_or_ge j k with e | e
     ·exact HO.out j e
     ·obtain rfl:j=k:=by omega
      exact he)
    cases hN:okNode (Qm.stOf l k).1 (Qm.stOf l k).2 with
    | false =>
     have HR:=Hi (HNO.out hN)
     rw [hN] at HN
     clear hN HST HNO
     generalize (Qm.stOf l k).1=s at *
     generalize (Qm.stOf l k).2=t at *
     go_wp2_with fail
     refine (HN.out _).mono ?_
     rintro e w1 ⟨rfl,hb1⟩
     have HB3:=Hi (HBW.out.trans (hb1.mono HBW.out.size))
     clear hb1
     go_wp2
     go_ret
     exact ⟨ret_b HR.out.symm,HB3.out⟩
    | true =>
     have HR:=Hi (fun j hj=>HST.out j hj hN)
     rw [hN] at HN
     clear hN HST HNO
     generalize (Qm.stOf l k).1=s at *
     generalize (Qm.stOf l k).2=t at *
     go_wp2_with fail
     refine (HN.out _).mono ?_
     rintro e w1 ⟨rfl,hb1⟩
     have HB3:=Hi (HBW.out.trans (hb1.mono HBW.out.size))
     clear hb1
     go_wp2
     go_roundw
     case rel=>exact ⟨k+1,by omega,by go_num,HR.out,HB3.out⟩
     case measure=>simp [intOf]; omega
   ·obtain rfl:k=l.length:=by omega
    have d0:decide ((l.length:Int)<(l.length:Int))=false:=decide_eq_false (by omega)
    by_cases h1:1≤l.length
    ·have d1:decide ((1:Int)≤(l.length:Int))=true:=decide_eq_true (by omega)
     have HR:=Hi (okPath_yes h1 (by omega) HO.out)
     clear HO HRD
     generalize l.length=n at *
     go_wp2
     go_ret
     exact ⟨ret_b HR.out.symm,HBW.out⟩
    ·have d1:decide ((1:Int)≤(l.length:Int))=false:=decide_eq_false (by omega)
     have HR:=Hi (show okPath l=false by unfold okPath; rw [decide_eq_false h1]; rfl)
     clear HO HRD
     generalize l.length=n at *
     go_wp2
     go_ret
     exact ⟨ret_b HR.out.symm,HBW.out⟩
open Go.RowKit
theorem rn_below (w:World) (o o':Obj):Below w.heap.size w ((w.alloc o).alloc o'):=by
 have h1:∀ (w:World) (o:Obj),Below w.heap.size w (w.alloc o):=fun w o=>(Below.refl _ _).alloc (Nat.le_refl _) _
 exact (h1 _ _).trans ((h1 _ _).mono (by simp))
theorem rn_at (w:World) (o:Obj) (y:Opp) (q:Option Addr) (c:Nat) (T:TypeId):OpAt ((w.alloc o).alloc (.cells (opA y q c) T)) (w.heap.size+1) y q c:=by
 have:=OpAt.new (w.alloc o) y q c T
 simpa using this
theorem rnamed1_any (x:Opp) (q:Option Addr) (c:Nat) (w:World) (hk:x.k=1):Calls Tryz.prog 85 #[.agg (opA x q c)] w fun e w'=>e=.returned (.agg (opA ({ Opp.zero with k:=1,rt:=x.rt,rr:=x.rr,key:=x.key }:Opp) none 0))∧Below w.heap.size w w':=by
 have HX:=Hi (show OpAt ((w.alloc (.cells (opA x q c) 89)).alloc (.cells #[.int .i64 0,.int .i64 0,.int .i64 0,.int .i64 0,.int .i64 0,.string ⟨#[]⟩,.slice none 0 0,.int .i64 0,.int .i64 0,.int .i64 0,.string ⟨#[]⟩,.bool false] 89)) w.heap.size x q c from (OpAt.new w x q c _).kept ((Below.refl _ _).alloc (Nat.le_refl _) _))
 obtain ⟨x0,x1,x2,x3,x4,x5,x6,x7,x8,x9,x10,x11⟩:=HX.out.cells
 rw [hk] at x0
 clear hk
 go_enter Tryz.func85,Tryz.ntmps85
 go_wp2
 exact bodyPost_ret (results_op otR _ rfl (rn_at w _ ({ Opp.zero with k:=1,rt:=x.rt,rr:=x.rr,key:=x.key }:Opp) none 0 _) rfl) rfl ⟨rfl,rn_below _ _ _⟩
theorem rnamed2_any (x:Opp) (q:Option Addr) (c:Nat) (w:World) (hk:x.k=2):Calls Tryz.prog 85 #[.agg (opA x q c)] w fun e w'=>e=.returned (.agg (opA ({ Opp.zero with k:=2,nt:=x.nt,nr:=x.nr,rt:=x.rt,rr:=x.rr,key:=x.key }:Opp) none 0))∧Below w.heap.size w w':=by
 have HX:=Hi (show OpAt ((w.alloc (.cells (opA x q c) 89)).alloc (.cells #[.int .i64 0,.int .i64 0,.int .i64 0,.int .i64 0,.int .i64 0,.string ⟨#[]⟩,.slice none 0 0,.int .i64 0,.int .i64 0,.int .i64 0,.string ⟨#[]⟩,.bool false] 89)) w.heap.size x q c from (OpAt.new w x q c _).kept ((Below.refl _ _).alloc (Nat.le_refl _) _))
 obtain ⟨x0,x1,x2,x3,x4,x5,x6,x7,x8,x9,x10,x11⟩:=HX.out.cells
 rw [hk] at x0
 clear hk
 go_enter Tryz.func85,Tryz.ntmps85
 go_wp2
 exact bodyPost_ret (results_op otR _ rfl (rn_at w _ ({ Opp.zero with k:=2,nt:=x.nt,nr:=x.nr,rt:=x.rt,rr:=x.rr,key:=x.key }:Opp) none 0 _) rfl) rfl ⟨rfl,rn_below _ _ _⟩
theorem rnamed3_any (x:Opp) (q:Option Addr) (c:Nat) (w:World) (hk:x.k=3):Calls Tryz.prog 85 #[.agg (opA x q c)] w fun e w'=>e=.returned (.agg (opA ({ Opp.zero with k:=3,nt:=x.nt,nr:=x.nr,p:=x.p,vk:=x.vk,vn:=x.vn,vt:=x.vt }:Opp) none 0))∧Below w.heap.size w w':=by
 have HX:=Hi (show OpAt ((w.alloc (.cells (opA x q c) 89)).alloc (.cells #[.int .i64 0,.int .i64 0,.int .i64 0,.int .i64 0,.int .i64 0,.string ⟨#[]⟩,.slice none 0 0,.int .i64 0,.int .i64 0,.int .i64 0,.string ⟨#[]⟩,.bool false] 89)) w.heap.size x q c from (OpAt.new w x q c _).kept ((Below.refl _ _).alloc (Nat.le_refl _) _))
 obtain ⟨x0,x1,x2,x3,x4,x5,x6,x7,x8,x9,x10,x11⟩:=HX.out.cells
 rw [hk] at x0
 clear hk
 go_enter Tryz.func85,Tryz.ntmps85
 go_wp2
 exact bodyPost_ret (results_op otR _ rfl (rn_at w _ ({ Opp.zero with k:=3,nt:=x.nt,nr:=x.nr,p:=x.p,vk:=x.vk,vn:=x.vn,vt:=x.vt }:Opp) none 0 _) rfl) rfl ⟨rfl,rn_below _ _ _⟩
theorem rnamed4_any (x:Opp) (q:Option Addr) (c:Nat) (w:World) (hk:x.k=4):Calls Tryz.prog 85 #[.agg (opA x q c)] w fun e w'=>e=.returned (.agg (opA ({ Opp.zero with k:=4,nt:=x.nt,nr:=x.nr,on:=x.on }:Opp) none 0))∧Below w.heap.size w w':=by
 have HX:=Hi (show OpAt ((w.alloc (.cells (opA x q c) 89)).alloc (.cells #[.int .i64 0,.int .i64 0,.int .i64 0,.int .i64 0,.int .i64 0,.string ⟨#[]⟩,.slice none 0 0,.int .i64 0,.int .i64 0,.int .i64 0,.string ⟨#[]⟩,.bool false] 89)) w.heap.size x q c from (OpAt.new w x q c _).kept ((Below.refl _ _).alloc (Nat.le_refl _) _))
 obtain ⟨x0,x1,x2,x3,x4,x5,x6,x7,x8,x9,x10,x11⟩:=HX.out.cells
 rw [hk] at x0
 clear hk
 go_enter Tryz.func85,Tryz.ntmps85
 go_wp2
 exact bodyPost_ret (results_op otR _ rfl (rn_at w _ ({ Opp.zero with k:=4,nt:=x.nt,nr:=x.nr,on:=x.on }:Opp) none 0 _) rfl) rfl ⟨rfl,rn_below _ _ _⟩
theorem rnamed5_any (x:Opp) (q:Option Addr) (c:Nat) (w:World) (hk:x.k=5):Calls Tryz.prog 85 #[.agg (opA x q c)] w fun e w'=>e=.returned (.agg (opA ({ Opp.zero with k:=5,nt:=x.nt,nr:=x.nr,rt:=x.rt,rr:=x.rr }:Opp) none 0))∧Below w.heap.size w w':=by
 have HX:=Hi (show OpAt ((w.alloc (.cells (opA x q c) 89)).alloc (.cells #[.int .i64 0,.int .i64 0,.int .i64 0,.int .i64 0,.int .i64 0,.string ⟨#[]⟩,.slice none 0 0,.int .i64 0,.int .i64 0,.int .i64 0,.string ⟨#[]⟩,.bool false] 89)) w.heap.size x q c from (OpAt.new w x q c _).kept ((Below.refl _ _).alloc (Nat.le_refl _) _))
 obtain ⟨x0,x1,x2,x3,x4,x5,x6,x7,x8,x9,x10,x11⟩:=HX.out.cells
 rw [hk] at x0
 clear hk
 go_enter Tryz.func85,Tryz.ntmps85
 go_wp2
 exact bodyPost_ret (results_op otR _ rfl (rn_at w _ ({ Opp.zero with k:=5,nt:=x.nt,nr:=x.nr,rt:=x.rt,rr:=x.rr }:Opp) none 0 _) rfl) rfl ⟨rfl,rn_below _ _ _⟩
theorem rnamed6_any (x:Opp) (q:Option Addr) (c:Nat) (w:World) (hk:x.k=6):Calls Tryz.prog 85 #[.agg (opA x q c)] w fun e w'=>e=.returned (.agg (opA ({ Opp.zero with k:=6,nt:=x.nt,nr:=x.nr,path:=x.path,p:=x.p,vk:=x.vk,vn:=x.vn,vt:=x.vt }:Opp) q c))∧Below w.heap.size w w':=by
 have HX:=Hi (show OpAt ((w.alloc (.cells (opA x q c) 89)).alloc (.cells #[.int .i64 0,.int .i64 0,.int .i64 0,.int .i64 0,.int .i64 0,.string ⟨#[]⟩,.slice none 0 0,.int .i64 0,.int .i64 0,.int .i64 0,.string ⟨#[]⟩,.bool false] 89)) w.heap.size x q c from (OpAt.new w x q c _).kept ((Below.refl _ _).alloc (Nat.le_refl _) _))
 obtain ⟨x0,x1,x2,x3,x4,x5,x6,x7,x8,x9,x10,x11⟩:=HX.out.cells
 rw [hk] at x0
 clear hk
 go_enter Tryz.func85,Tryz.ntmps85
 go_wp2
 exact bodyPost_ret (results_op otR _ rfl (rn_at w _ ({ Opp.zero with k:=6,nt:=x.nt,nr:=x.nr,path:=x.path,p:=x.p,vk:=x.vk,vn:=x.vn,vt:=x.vt }:Opp) q c _) rfl) rfl ⟨rfl,rn_below _ _ _⟩
theorem rnamedN_any (x:Opp) (q:Option Addr) (c:Nat) (w:World) (h1:x.k≠1) (h2:x.k≠2) (h3:x.k≠3) (h4:x.k≠4) (h5:x.k≠5) (h6:x.k≠6):Calls Tryz.prog 85 #[.agg (opA x q c)] w fun e w'=>e=.returned (.agg (opA Opp.zero none 0))∧Below w.heap.size w w':=by
 have HX:=Hi (show OpAt ((w.alloc (.cells (opA x q c) 89)).alloc (.cells #[.int .i64 0,.int .i64 0,.int .i64 0,.int .i64 0,.int .i64 0,.string ⟨#[]⟩,.slice none 0 0,.int .i64 0,.int .i64 0,.int .i64 0,.string ⟨#[]⟩,.bool false] 89)) w.heap.size x q c from (OpAt.new w x q c _).kept ((Below.refl _ _).alloc (Nat.le_refl _) _))
 obtain ⟨x0,x1,x2,x3,x4,x5,x6,x7,x8,x9,x10,x11⟩:=HX.out.cells
 have d1:(x.k == 1)=false:=by simpa using h1
 have d2:(x.k == 2)=false:=by simpa using h2
 have d3:(x.k == 3)=false:=by simpa using h3
 have d4:(x.k == 4)=false:=by simpa using h4
 have d5:(x.k == 5)=false:=by simpa using h5
 have d6:(x.k == 6)=false:=by simpa using h6
 clear h1 h2 h3 h4 h5 h6
 go_enter Tryz.func85,Tryz.ntmps85
 go_wp2
 exact bodyPost_ret (results_op otR _ rfl (rn_at w _ Opp.zero none 0 _) rfl) rfl ⟨rfl,rn_below _ _ _⟩
open Go.RowKit
theorem rsame_start (w:World) (x y:Opp) (q r:Option Addr) (c d:Nat) (ha:Pa w x q c) (hb:Pa w y r d) :
  Hid (OpAt ((w.alloc (.cells (opA x q c) 89)).alloc (.cells (opA y r d) 89)) w.heap.size x q c)∧Hid (OpAt ((w.alloc (.cells (opA x q c) 89)).alloc (.cells (opA y r d) 89)) (w.heap.size+1) y r d) ∧
  Hid (Pa ((w.alloc (.cells (opA x q c) 89)).alloc (.cells (opA y r d) 89)) x q c)∧Hid (Pa ((w.alloc (.cells (opA x q c) 89)).alloc (.cells (opA y r d) 89)) y r d)∧Hid (Below w.heap.size w ((w.alloc (.cells (opA x q c) 89)).alloc (.cells (opA y r d) 89))):=by
 have h1:∀ (w:World) (o:Obj),Below w.heap.size w (w.alloc o):=fun w o=>(Below.refl _ _).alloc (Nat.le_refl _) _
 have e1:(w.alloc (.cells (opA x q c) 89)).heap.size=w.heap.size+1:=by simp
 have k:=OpAt.new (w.alloc (.cells (opA x q c) 89)) y r d 89
 rw [e1] at k
 exact ⟨Hi ((OpAt.new w x q c _).kept (h1 _ _)),Hi k,Hi ((ha.kept (h1 _ _)).kept (h1 _ _)),Hi ((hb.kept (h1 _ _)).kept (h1 _ _)),Hi ((h1 _ _).trans ((h1 _ _).mono (by simp)))⟩
theorem rsame_any (x y:Opp) (q r:Option Addr) (c d:Nat) (w:World) (hs:x.path.length≤4611686018427387904) (ha:Pa w x q c) (hb:Pa w y r d):Calls Tryz.prog 50 #[.agg (opA x q c),.agg (opA y r d)] w fun e w'=>e=.returned (.bool (sameO x y))∧Below w.heap.size w w':=by
 obtain ⟨HX,HY,HA,HC,HB⟩:=rsame_start w x y q r c d ha hb
 have HNP:=Hi (show x.path≠y.path→sameO x y=false from fun h=>by
  cases hh:sameO x y
  ·rfl
  ·exact absurd (by rw [sameO_iff.1 hh]) h)
 clear ha hb
 by_cases hn:x.path.length=y.path.length
 rotate_left
 ·have HR:=Hi (HNP.out (fun e=>hn (by rw [e])))
  have e1:((x.path.length:Int) != (y.path.length:Int))=true:=by rw [bne_iff_ne]; omega
  obtain ⟨x0,x1,x2,x3,x4,x5,x6,x7,x8,x9,x10,x11⟩:=HX.out.cells
  obtain ⟨y0,y1,y2,y3,y4,y5,y6,y7,y8,y9,y10,y11⟩:=HY.out.cells
  clear hn
  generalize x.path.length=n at *
  generalize y.path.length=n' at *
  go_enter Tryz.func50,Tryz.ntmps50
  go_wp2
  go_ret
  exact ⟨ret_b HR.out.symm,HB.out⟩
 have HN:=Hi hn
 have x6:=HX.out.cell 6
 have y6:=HY.out.cell 6
 simp only [opL,List.getElem?_cons_succ,List.getElem?_cons_zero] at x6 y6
 rw [← hn] at y6
 clear hn
 go_enter Tryz.func50,Tryz.ntmps50
 go_wp2
 go_loopw [5] (fun i wr=>∃ k:Nat,k≤x.path.length∧i=.int .i64 (k:Int)∧(∀ j,j<k→Qm.stOf x.path j=Qm.stOf y.path j)∧OpAt wr w.heap.size x q c∧OpAt wr (w.heap.size+1) y r d∧Pa wr x q c∧Pa wr y r d∧Below w.heap.size w wr) (fun i _=>x.path.length - (intOf i).toNat)
 case atStart=>exact ⟨0,Nat.zero_le _,rfl,fun j hj=>absurd hj (Nat.not_lt_zero _),HX.out,HY.out,HA.out,HC.out,HB.out⟩
 case round =>
  clear x6 y6 HX HY HA HC HB
  obtain ⟨k,hk,rfl,ho,hx,hy,hpa,hpb,hbw⟩:=hrel
  have HO:=Hi ho
  have HX:=Hi hx
  have HY:=Hi hy
  have HA:=Hi hpa
  have HC:=Hi hpb
  have HB:=Hi hbw
  clear ho hx hy hpa hpb hbw
  by_cases hlt:k<x.path.length
  ·have x6:=HX.out.cell 6
   have y6:=HY.out.cell 6
   simp only [opL,List.getElem?_cons_succ,List.getElem?_cons_zero] at x6 y6
   rw [← HN.out] at y6
   obtain ⟨b,o,rfl,-⟩:=HA.out.rd.addr (by rw [stCells_length]; omega)
   obtain ⟨b',o',rfl,-⟩:=HC.out.rd.addr (by rw [stCells_length,← HN.out]; omega)
   obtain ⟨a0,a1⟩:=HA.out.rd.st k hlt
   obtain ⟨b0,b1⟩:=HC.out.rd.st k (by rw [← HN.out]; exact hlt)
   have d0:decide ((k:Int)<(x.path.length:Int))=true:=decide_eq_true (by omega)
   have HST:=Hi (show Qm.stOf x.path k=Qm.stOf y.path k→∀ j,j<k+1→Qm.stOf x.path j=Qm.stOf y.path j from fun he j hj=>by
    rcases Nat.lt_or_ge j k with e | e
    ·exact HO.out j e
    ·obtain rfl:j=k:=by omega
     exact he)
   have HNE:=Hi (show Qm.stOf x.path k≠Qm.stOf y.path k→sameO x y=false from fun he=>HNP.out fun e=>he (by rw [e]))
   generalize Qm.stOf x.path k=s at *
   generalize Qm.stOf y.path k=t at *
   obtain ⟨s0,s1⟩:=s
   obtain ⟨t0,t1⟩:=t
   dsimp only at *
   by_cases e0:s0=t0
   ·subst e0
    by_cases e1:s1=t1
    ·subst e1
     have HN2:=Hi (HST.out rfl)
     clear HST HNE
     go_wp2
     go_quiet (fail)
     go_wp2
     go_roundw
     case rel=>exact ⟨k+1,by omega,by go_num,HN2.out,HX.out.kept (below_drewN (Below.refl _ _) _),HY.out.kept (below_drewN (Below.refl _ _) _),HA.out.kept (below_drewN (Below.refl _ _) _),HC.out.kept (below_drewN (Below.refl _ _) _),below_drewN HB.out _⟩
     case measure=>simp [intOf]; omega
    ·have f1:(s1 == t1)=false:=by simpa using e1
     have HR:=Hi (HNE.out (fun e=>e1 (by injection e)))
     clear HST HNE
     go_wp2
     go_quiet (fail)
     go_wp2
     go_ret
     exact ⟨ret_b HR.out.symm,below_drewN HB.out _⟩
   ·have f0:(s0 == t0)=false:=by simpa using e0
    have HR:=Hi (HNE.out (fun e=>e0 (by injection e)))
    clear HST HNE
    go_wp2
    go_quiet (fail)
    go_wp2
    go_ret
    exact ⟨ret_b HR.out.symm,below_drewN HB.out _⟩
  ·obtain rfl:k=x.path.length:=by omega
   have HPE:=Hi (stOf_ext HN.out HO.out)
   have d0:decide ((x.path.length:Int)<(x.path.length:Int))=false:=decide_eq_false (by omega)
   obtain ⟨x0,x1,x2,x3,x4,x5,x6,x7,x8,x9,x10,x11⟩:=HX.out.cells
   obtain ⟨y0,y1,y2,y3,y4,y5,y6,y7,y8,y9,y10,y11⟩:=HY.out.cells
   clear HO hk
   generalize hnn:x.path.length=n at *
   generalize hmm:y.path.length=m at *
   clear hnn hmm
   by_cases h_k:x.k=y.k
   rotate_left
   ·have z:(x.k == y.k)=false:=by simpa using h_k
    have HZ:=Hi z
    clear h_k
    go_wp2
    go_ret
    exact ⟨ret_b (by simp [sameO,HZ.out]),HB.out⟩
   have t_k:(x.k == y.k)=true:=by simpa using h_k
   have T_k:=Hi h_k
   clear h_k
   by_cases h_nt:x.nt=y.nt
   rotate_left
   ·have z:(x.nt == y.nt)=false:=by simpa using h_nt
    have HZ:=Hi z
    clear h_nt
    go_wp2
    go_ret
    exact ⟨ret_b (by simp [sameO,HZ.out]),HB.out⟩
   have t_nt:(x.nt == y.nt)=true:=by simpa using h_nt
   have T_nt:=Hi h_nt
   clear h_nt
   by_cases h_nr:x.nr=y.nr
   rotate_left
   ·have z:(x.nr == y.nr)=false:=by simpa using h_nr
    have HZ:=Hi z
    clear h_nr
    go_wp2
    go_ret
    exact ⟨ret_b (by simp [sameO,HZ.out]),HB.out⟩
   have t_nr:(x.nr == y.nr)=true:=by simpa using h_nr
   have T_nr:=Hi h_nr
   clear h_nr
   by_cases h_rt:x.rt=y.rt
   rotate_left
   ·have z:(x.rt == y.rt)=false:=by simpa using h_rt
    have HZ:=Hi z
    clear h_rt
    go_wp2
    go_ret
    exact ⟨ret_b (by simp [sameO,HZ.out]),HB.out⟩
   have t_rt:(x.rt == y.rt)=true:=by simpa using h_rt
   have T_rt:=Hi h_rt
   clear h_rt
   by_cases h_rr:x.rr=y.rr
   rotate_left
   ·have z:(x.rr == y.rr)=false:=by simpa using h_rr
    have HZ:=Hi z
    clear h_rr
    go_wp2
    go_ret
    exact ⟨ret_b (by simp [sameO,HZ.out]),HB.out⟩
   have t_rr:(x.rr == y.rr)=true:=by simpa using h_rr
   have T_rr:=Hi h_rr
   clear h_rr
   by_cases h_key:x.key=y.key
   rotate_left
   ·have z:(x.key.toList == y.key.toList)=false:=bytes_ne h_key
    have HZ:=Hi (show decide (x.key=y.key)=false from decide_eq_false h_key)
    clear h_key
    go_wp2
    go_ret
    exact ⟨ret_b (by simp [sameO,HZ.out]),HB.out⟩
   have t_key:(x.key.toList == y.key.toList)=true:=by rw [h_key]; simp
   have T_key:=Hi h_key
   clear h_key
   by_cases h_p:x.p=y.p
   rotate_left
   ·have z:(x.p == y.p)=false:=by simpa using h_p
    have HZ:=Hi z
    clear h_p
    go_wp2
    go_ret
    exact ⟨ret_b (by simp [sameO,HZ.out]),HB.out⟩
   have t_p:(x.p == y.p)=true:=by simpa using h_p
   have T_p:=Hi h_p
   clear h_p
   by_cases h_vk:x.vk=y.vk
   rotate_left
   ·have z:(x.vk == y.vk)=false:=by simpa using h_vk
    have HZ:=Hi z
    clear h_vk
    go_wp2
    go_ret
    exact ⟨ret_b (by simp [sameO,HZ.out]),HB.out⟩
   have t_vk:(x.vk == y.vk)=true:=by simpa using h_vk
   have T_vk:=Hi h_vk
   clear h_vk
   by_cases h_vn:x.vn=y.vn
   rotate_left
   ·have z:(x.vn == y.vn)=false:=by simpa using h_vn
    have HZ:=Hi z
    clear h_vn
    go_wp2
    go_ret
    exact ⟨ret_b (by simp [sameO,HZ.out]),HB.out⟩
   have t_vn:(x.vn == y.vn)=true:=by simpa using h_vn
   have T_vn:=Hi h_vn
   clear h_vn
   by_cases h_vt:x.vt=y.vt
   rotate_left
   ·have z:(x.vt.toList == y.vt.toList)=false:=bytes_ne h_vt
    have HZ:=Hi (show decide (x.vt=y.vt)=false from decide_eq_false h_vt)
    clear h_vt
    go_wp2
    go_ret
    exact ⟨ret_b (by simp [sameO,HZ.out]),HB.out⟩
   have t_vt:(x.vt.toList == y.vt.toList)=true:=by rw [h_vt]; simp
   have T_vt:=Hi h_vt
   clear h_vt
   have HR:=Hi (show sameO x y=(x.on == y.on) by simp [sameO,HPE.out,T_k.out,T_nt.out,T_nr.out,T_rt.out,T_rr.out,T_key.out,T_p.out,T_vk.out,T_vn.out,T_vt.out])
   go_wp2
   go_ret
   exact ⟨ret_b HR.out.symm,HB.out⟩
end Go.Proofs.YtfgnmnkihbgjnaaGreat
