/-
  WHAT AN OP THAT MAY BE IS, kind by kind; it is read as it was written, and what is read was written so.
  No conditions.
-/
import Derived.Test.YtjaojhhcpggcpaaOMath
namespace Go.Proofs.Ytjaojhhcpggcpaa
open Go.RowKit

theorem okNode_right {t r : Int} (h : okNode t r = true) : rightB t r = true := by
  unfold okNode at h
  simp only [Bool.and_eq_true] at h
  exact h.1
theorem isZ_iff {t r : Int} : isZ t r = true ↔ t = 0 ∧ r = 0 := by simp [isZ]
theorem isT_iff {t r : Int} : isT t r = true ↔ t = 0 ∧ r = 1 := by simp [isT]
theorem isV_iff {k n : Int} {t : ByteArray} : isV k n t = true ↔ k = 0 ∧ n = 0 ∧ t = ⟨#[]⟩ := by simp [isV, and_assoc]
theorem isZ_right {t r : Int} (h : isZ t r = true) : rightB t r = true := by
  obtain ⟨rfl, rfl⟩ := isZ_iff.1 h
  rfl
theorem okPlace_right {t r : Int} (h : okPlace t r = true) : rightB t r = true := by
  unfold okPlace at h
  simp only [Bool.or_eq_true] at h
  rcases h with (h | h) | h
  · exact okNode_right h
  · exact isZ_right h
  · obtain ⟨rfl, rfl⟩ := isT_iff.1 h
    rfl
theorem key_small {k : ByteArray} (h : Km.rightB k.data.toList = true) : k.size ≤ 24 := (right_size.1 h).2.1
theorem okPath_small {l : List Qm.St} (h : okPath l = true) : 1 ≤ l.length ∧ l.length ≤ 8 ∧ ∀ s, s ∈ l → rightB s.1 s.2 = true := by
  unfold okPath at h
  simp only [Bool.and_eq_true, decide_eq_true_eq, List.all_eq_true] at h
  exact ⟨h.1.1, h.1.2, fun s hs => okNode_right (h.2 s hs)⟩
theorem right8_facts {p k n : Int} {t : List UInt8} (h : right8V p k n t = true) : 1 ≤ p ∧ p ≤ 8 ∧ Vm.rightV k n t = true := by
  unfold right8V at h
  simp only [Bool.and_eq_true, decide_eq_true_eq] at h
  exact ⟨h.1.1, h.1.2, h.2.1⟩

theorem rightO_parts {x : Opp} (h : rightO x = true) : fitO (prt x.k) x = true ∧ aloneO (prt x.k) x = true := by
  unfold rightO at h
  simp only [Bool.and_eq_true] at h
  exact ⟨h.1.2, h.2⟩
/-- kind by kind: what is named may be, and the op is no more than that -/
theorem right1 {x : Opp} (h : rightO x = true) (hk : x.k = 1) : rightB x.rt x.rr = true ∧ Km.rightB x.key.data.toList = true ∧ x = { Opp.zero with k := 1, rt := x.rt, rr := x.rr, key := x.key } := by
  obtain ⟨hf, ha⟩ := rightO_parts h
  rw [hk] at hf ha
  simp [prt, fitO] at hf
  simp [prt, aloneO, isZ_iff, isV_iff] at ha
  refine ⟨okPlace_right hf.1, hf.2, ?_⟩
  obtain ⟨k, nt, nr, rt, rr, key, path, p, vk, vn, vt, on⟩ := x
  simp_all [Opp.zero]
theorem right2 {x : Opp} (h : rightO x = true) (hk : x.k = 2) : rightB x.nt x.nr = true ∧ rightB x.rt x.rr = true ∧ Km.rightB x.key.data.toList = true ∧ x = { Opp.zero with k := 2, nt := x.nt, nr := x.nr, rt := x.rt, rr := x.rr, key := x.key } := by
  obtain ⟨hf, ha⟩ := rightO_parts h
  rw [hk] at hf ha
  simp [prt, fitO] at hf
  simp [prt, aloneO, isV_iff] at ha
  refine ⟨okNode_right hf.1, okPlace_right hf.2.1, hf.2.2, ?_⟩
  obtain ⟨k, nt, nr, rt, rr, key, path, p, vk, vn, vt, on⟩ := x
  simp_all [Opp.zero]
theorem right3 {x : Opp} (h : rightO x = true) (hk : x.k = 3) : rightB x.nt x.nr = true ∧ right8V x.p x.vk x.vn x.vt.data.toList = true ∧ x = { Opp.zero with k := 3, nt := x.nt, nr := x.nr, p := x.p, vk := x.vk, vn := x.vn, vt := x.vt } := by
  obtain ⟨hf, ha⟩ := rightO_parts h
  rw [hk] at hf ha
  simp [prt, fitO] at hf
  simp [prt, aloneO, isZ_iff] at ha
  refine ⟨okNode_right hf.1, hf.2, ?_⟩
  obtain ⟨k, nt, nr, rt, rr, key, path, p, vk, vn, vt, on⟩ := x
  simp_all [Opp.zero]
theorem right4 {x : Opp} (h : rightO x = true) (hk : x.k = 4) : rightB x.nt x.nr = true ∧ x = { Opp.zero with k := 4, nt := x.nt, nr := x.nr, on := x.on } := by
  obtain ⟨hf, ha⟩ := rightO_parts h
  rw [hk] at hf ha
  simp [prt, fitO] at hf
  simp [prt, aloneO, isZ_iff, isV_iff] at ha
  refine ⟨okNode_right hf, ?_⟩
  obtain ⟨k, nt, nr, rt, rr, key, path, p, vk, vn, vt, on⟩ := x
  simp_all [Opp.zero]
theorem right5 {x : Opp} (h : rightO x = true) (hk : x.k = 5) : rightB x.nt x.nr = true ∧ rightB x.rt x.rr = true ∧ x = { Opp.zero with k := 5, nt := x.nt, nr := x.nr, rt := x.rt, rr := x.rr } := by
  obtain ⟨hf, ha⟩ := rightO_parts h
  rw [hk] at hf ha
  simp [prt, fitO] at hf
  simp [prt, aloneO, isV_iff] at ha
  refine ⟨okNode_right hf.1, hf.2.elim okNode_right isZ_right, ?_⟩
  obtain ⟨k, nt, nr, rt, rr, key, path, p, vk, vn, vt, on⟩ := x
  simp_all [Opp.zero]
theorem right6 {x : Opp} (h : rightO x = true) (hk : x.k = 6) : rightB x.nt x.nr = true ∧ okPath x.path = true ∧ right8V x.p x.vk x.vn x.vt.data.toList = true ∧ x = { Opp.zero with k := 6, nt := x.nt, nr := x.nr, path := x.path, p := x.p, vk := x.vk, vn := x.vn, vt := x.vt } := by
  obtain ⟨hf, ha⟩ := rightO_parts h
  rw [hk] at hf ha
  simp [prt, fitO] at hf
  simp [prt, aloneO, isZ_iff] at ha
  refine ⟨okNode_right hf.1.1, hf.1.2, hf.2, ?_⟩
  obtain ⟨k, nt, nr, rt, rr, key, path, p, vk, vn, vt, on⟩ := x
  simp_all [Opp.zero]
end Go.Proofs.Ytjaojhhcpggcpaa
