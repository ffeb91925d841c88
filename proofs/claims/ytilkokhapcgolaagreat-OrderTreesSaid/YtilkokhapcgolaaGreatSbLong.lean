/-
  The law's fine, long, knows.
  No conditions but sizes.
-/
import Derived.Test.YtilkokhapcgolaaGreatSbKnow
namespace Go.Proofs.YtilkokhapcgolaaGreat
open Go.RowKit

/-- the three siblings of knows -/
def kn : List Sbm.Sib := [(⟨#[98]⟩, (2, 0)), (⟨#[98]⟩, (1, 0)), (⟨#[97]⟩, (3, 0))]
def knS : List Sbm.Sib := [(⟨#[97]⟩, (3, 0)), (⟨#[98]⟩, (1, 0)), (⟨#[98]⟩, (2, 0))]
theorem kn_sorted {m : List Sbm.Sib} (hp : m.Perm kn) (hs : Sbm.Srt m) : m = knS := by
  refine Sbm.srt_uniq _ _ (hp.trans ?_) hs ?_
  · have h1 : kn.Perm [(⟨#[98]⟩, (1, 0)), (⟨#[98]⟩, (2, 0)), (⟨#[97]⟩, (3, 0))] := List.Perm.swap _ _ _
    have h2 : [((⟨#[98]⟩, (1, 0)) : Sbm.Sib), (⟨#[98]⟩, (2, 0)), (⟨#[97]⟩, (3, 0))].Perm [(⟨#[98]⟩, (1, 0)), (⟨#[97]⟩, (3, 0)), (⟨#[98]⟩, (2, 0))] := (List.Perm.swap _ _ _).cons _
    exact h1.trans (h2.trans (List.Perm.swap _ _ _))
  · unfold Sbm.Srt knS
    decide +kernel
theorem key_one : Sbm.keyOf knS 1 = ([97, 128], 0) := by decide +kernel
theorem key_two : Sbm.keyOf knS 2 = ([], 32) := by decide +kernel
theorem find_two {r : Int} (h : FindIs knS (2, 0) r) : r = 2 := by
  rcases h with ⟨-, h⟩ | ⟨k, hk, rfl, h1, -⟩
  · exact absurd rfl (h 2 (by decide))
  · have : k = 0 ∨ k = 1 ∨ k = 2 := by have : k < 3 := hk; omega
    rcases this with rfl | rfl | rfl
    · cases h1
    · cases h1
    · rfl

set_option maxRecDepth 100000 in
set_option maxHeartbeats 4000000 in
theorem knows11_any (w : World) : Calls Tryz.prog 5 #[] w fun e w' => e = .returned (.bool true) ∧ Below w.heap.size w w' := by
  have hb : Below w.heap.size w (w.alloc (.cells #[.string ⟨#[98]⟩, .int .i64 2, .int .i64 0, .string ⟨#[98]⟩, .int .i64 1, .int .i64 0, .string ⟨#[97]⟩, .int .i64 3, .int .i64 0] 54)) := (Below.refl _ _).alloc (Nat.le_refl _) _
  have HB := Lib.hid hb
  have HS := Lib.hid (sort_sib (some ⟨w.heap.size, 0, none⟩) 3 kn (w.alloc (.cells #[.string ⟨#[98]⟩, .int .i64 2, .int .i64 0, .string ⟨#[98]⟩, .int .i64 1, .int .i64 0, .string ⟨#[97]⟩, .int .i64 3, .int .i64 0] 54)) (fun _ => ⟨_, 0, rfl, fun i u hu => by
    rw [Nat.zero_add, World.cell?_alloc_at _ _ _ _ rfl]
    rw [← hu]
    simp [sbCells, kn, sbC]⟩) (fun e => by cases e) (by decide))
  rw [show kn.length = 3 from rfl] at HS
  clear hb
  go_enter Tryz.func5, Tryz.ntmps5
  go_wp2_with fail
  refine HS.out.mono ?_
  rintro e w1 ⟨p, c, m, hp, hs, rfl, hr, -, -, hb1⟩
  obtain rfl := kn_sorted hp hs
  have HR := Lib.hid hr
  have HB1 := Lib.hid (HB.out.trans (hb1.mono HB.out.size))
  have HK1 := Lib.hid (fun W (h : Below w1.heap.size w1 W) => key_sib p c knS 1 W (hr.below h) (by decide) (fun x hx => by
    rcases List.mem_cons.1 hx with rfl | hx
    · decide
    · rcases List.mem_cons.1 hx with rfl | hx
      · decide
      · rcases List.mem_cons.1 hx with rfl | hx
        · decide
        · cases hx))
  have HK2 := Lib.hid (fun W (h : Below w1.heap.size w1 W) => key_sib p c knS 2 W (hr.below h) (by decide) (fun x hx => by
    rcases List.mem_cons.1 hx with rfl | hx
    · decide
    · rcases List.mem_cons.1 hx with rfl | hx
      · decide
      · rcases List.mem_cons.1 hx with rfl | hx
        · decide
        · cases hx))
  rw [key_one] at HK1
  rw [key_two] at HK2
  have HF := Lib.hid (fun W (h : Below w1.heap.size w1 W) => find_sib p c knS (2, 0) W (hr.below h) (by decide))
  rw [show knS.length = 3 from rfl] at *
  clear hp hs hr hb1 HS HB
  go_wp2_with fail
  refine (HK1.out _ (Below.refl _ _)).mono ?_
  rintro e w2 ⟨rfl, hb2⟩
  have HB2 := Lib.hid hb2
  clear hb2
  go_wp2_with fail
  refine (HK2.out _ HB2.out).mono ?_
  rintro e w3 ⟨rfl, hb3⟩
  have HB3 := Lib.hid (HB2.out.trans (hb3.mono HB2.out.size))
  clear hb3
  obtain ⟨b, o, rfl, -⟩ := HR.out.addr (by decide)
  obtain ⟨x0, -, -⟩ := (HR.out.below HB3.out).sb 0 (by decide)
  obtain ⟨-, x1, -⟩ := (HR.out.below HB3.out).sb 1 (by decide)
  rw [show Sbm.sbOf knS 0 = (⟨#[97]⟩, (3, 0)) from rfl] at x0
  rw [show Sbm.sbOf knS 1 = (⟨#[98]⟩, (1, 0)) from rfl] at x1
  simp only [Nat.zero_mul, Nat.add_zero, Nat.one_mul] at x0 x1
  have hs1 : strB [97, 128] = ⟨#[97, 128]⟩ := rfl
  rw [hs1]
  clear hs1
  go_wp2_with ((first | (go_at_call 17; refine (num11_any _ _).mono ?_; rintro e wn ⟨rfl, rfl⟩) | (go_at_call 18; refine (HF.out _ HB3.out).mono ?_; rintro e wn ⟨⟨r, hr, rfl⟩, hb4⟩; obtain rfl := find_two hr; have HB4 := Lib.hid hb4; clear hb4 hr)))
  go_ret
  exact ⟨rfl, HB1.out.trans ((HB3.out.trans (HB4.out.mono HB3.out.size)).mono HB1.out.size)⟩

end Go.Proofs.YtilkokhapcgolaaGreat
