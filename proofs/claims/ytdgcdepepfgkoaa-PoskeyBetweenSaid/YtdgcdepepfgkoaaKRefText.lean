/-
  THE DOCUMENT's text: digits as a text.
  No conditions but sizes.
-/
import Derived.Test.YtdgcdepepfgkoaaKRefBelow
import Derived.Test.YtdgcdepepfgkoaaKBetween
namespace Go.Proofs.Ytdgcdepepfgkoaa
open Go.RowKit

/-- so many digits as bytes -/
def bytesD (f : Nat → Nat) (n : Nat) : List UInt8 := (List.range n).map fun i => UInt8.ofNat (f i)
theorem bytesD_length (f : Nat → Nat) (n : Nat) : (bytesD f n).length = n := by simp [bytesD]
theorem by8_bytesD (f : Nat → Nat) (n i : Nat) (h : i < n) : by8 (bytesD f n) i = f i % 256 := by
  simp [by8, bytesD, List.getD, h]
/-- a row of bytes -/
def bys (f : Nat → Nat) : Nat → Value := fun i => .int .u8 (f i : Nat)

theorem make_bytes (n : Nat) (hn : n ≤ 24) (w : World) : (Instr.makeSlice 43 (.int .i64 (n : Int)) (.int .i64 (n : Int))).run Try.prog w = .ok (.slice (some ⟨w.heap.size, 0, none⟩) n n) (w.alloc (.cells (madeCells #[.int .u8 0] n) 5)) := by
  obtain ⟨i0, hi, hz0, hz1, hz2⟩ := info_parts info_u8
  have h := run_make (P := Try.prog) w 43 5 i0 (.int .u8 0) Try.underlying43 hi hz0 .i64 .i64 (n : Int) (n : Int) (by omega) (Int.le_refl _) (by rw [hz2]; omega) (by omega)
  rw [hz1, Int.toNat_natCast, Nat.mul_one] at h
  exact h

set_option maxRecDepth 100000 in
set_option maxHeartbeats 2000000 in
theorem text_any (g n : Nat) (f : Nat → Nat) (w : World) (hn : n ≤ 24) (hf : ∀ k, k < n → f k ≤ 255) (h : w.rowIs g 3 n (dgs f)) :
    Calls Try.prog 25 #[.slice (some ⟨g, 0, none⟩) n n] w fun e w' => e = .returned (.string (strB (bytesD f n))) ∧ Below w.heap.size w w' := by
  have hmk := make_bytes n hn
  have hgl := h.lt
  have HM := Lib.hid (World.rowIs_made w (.int .u8 0) n 5)
  have HB := Lib.hid ((Below.refl w.heap.size w).alloc (Nat.le_refl _) (.cells (madeCells #[.int .u8 0] n) 5))
  have HS := Lib.hid (show w.heap.size < (w.alloc (.cells (madeCells #[.int .u8 0] n) 5)).heap.size by simp)
  have HROW := Lib.hid h
  have HF := Lib.hid hf
  clear h hf
  go_enter Try.func25, Try.ntmps25
  go_wp2
  clear hmk
  go_loopw [4] (fun i wr => ∃ k : Nat, k ≤ n ∧ i = .int .i64 k ∧ wr.rowIs w.heap.size 5 n (bys (upD f k)) ∧ Below w.heap.size w wr) (fun i _ => n - (intOf i).toNat)
  case atStart => exact ⟨0, Nat.zero_le _, rfl, HM.out.congr fun i hi => by simp [bys, upD], HB.out⟩
  case round =>
    obtain ⟨k, hk, rfl, hrow, hb⟩ := hrel
    have HB0 := Lib.hid hb
    have HR0 := Lib.hid hrow
    have hold := HROW.out.of_block (hb.block g hgl)
    clear hb
    by_cases hlt : k < n
    · have hc := hold.cell hlt
      have hc2 := hrow.cell hlt
      have hfz := hrow.frozen k
      have hfk := HF.out k hlt
      have e2 : dgs f k = .int .i64 (f k : Nat) := rfl
      rw [e2] at hc
      have g0 : (0 : Int) ≤ (k : Int) := by omega
      have g1 : (k : Int) < (n : Int) := by omega
      have HN := Lib.hid ((HR0.out.set k (.int .u8 (f k : Nat))).congr (g := bys (upD f (k + 1))) fun j hj => by
        by_cases e : j = k
        · subst e; simp [bys, upD]
        · by_cases e3 : j < k
          · simp [bys, upD, e, e3, show j < k + 1 from by omega]
          · simp [bys, upD, e, e3, show ¬ j < k + 1 from by omega])
      have HB1 := Lib.hid (HB0.out.setCell (p := ⟨w.heap.size, k, none⟩) (by simp) (.int .u8 (f k : Nat)))
      have g2 : (0 : Int) ≤ (f k : Int) := by omega
      have g3 : (f k : Int) ≤ 255 := by omega
      clear hold hrow e2 hfk
      go_wp2
      go_roundw
      case rel => exact ⟨k + 1, by omega, by go_num, HN.out, HB1.out⟩
      case measure => simp [intOf]; omega
    · obtain rfl : k = n := by omega
      have hbs : Bs wr (some ⟨w.heap.size, 0, none⟩) (bytesD f k) := fun h0 => ⟨_, 0, rfl, fun i hi => by
        rw [bytesD_length] at hi
        rw [Nat.zero_add, hrow.cell hi, by8_bytesD f k i hi]
        have := HF.out i hi
        simp [bys, upD, hi]; omega⟩
      have hcv := fun c => hbs.conv (P := Try.prog) c 43 5 9 Try.underlying43 Try.underlying5 Try.underlying9
      rw [bytesD_length] at hcv
      clear hbs hrow hold
      go_wp2
      go_ret
      exact ⟨rfl, HB0.out⟩

end Go.Proofs.Ytdgcdepepfgkoaa
