/-
  HOW MANY BYTES A NUMBER TAKES: bits.Len64 and bits.Len of a number below 2^48.
-/
import Derived.Test.YtjaojhhcpggcpaaAppend
import Derived.Lib.Tables
import Derived.Lib.BitFns
namespace Go.Proofs.Ytjaojhhcpggcpaa
open Go.RowKit

theorem info_u8 : (Try.prog.info? 5).map (fun i => (i.zero, i.size, i.bytes)) = some (some (.int .u8 0), 1, 1) := by kernel_rfl

theorem len_fit (k b n : Nat) (l : Int) (h : l = (b : Int)) (hb : b ≤ 8) (hk : k ≤ 40) (hn : n = k + b) : wrap64 ((k : Int) + wrap64 l) = (n : Int) := by
  subst h hn
  rw [IntWalk.wrap64_in (b : Int) (by omega), IntWalk.wrap64_in _ (by omega)]
  omega
theorem len_fit0 (b n : Nat) (l : Int) (h : l = (b : Int)) (hb : b ≤ 8) (hn : n = b) : wrap64 (wrap64 l) = (n : Int) := by
  subst h hn
  rw [IntWalk.wrap64_in (n : Int) (by omega), IntWalk.wrap64_in _ (by omega)]

set_option maxHeartbeats 2000000 in
set_option maxRecDepth 100000 in
theorem len64_any (x : Int) (w : World) (h0 : 0 ≤ x) (h1 : x ≤ 281474976710655) :
    Calls Try.prog 52 #[.int .u64 x] w fun e w' => e = .returned (.int .i64 (Lib.bitLen x.toNat)) ∧ w = w' := by
  have t9 := Try.underlying9
  by_cases a1 : x ≤ 255
  · have HF := Lib.hid (len_fit0 (Lib.bitLen x.toNat) (Lib.bitLen x.toNat) _ (Lib.len8_of x h0 a1) (Lib.bitLen_le8' x h0 a1) rfl)
    go_enter Try.func52, Try.ntmps52
    go_wp2
    go_ret
    exact ⟨ret_int HF.out, rfl⟩
  by_cases a2 : x ≤ 65535
  · have e : (x / 256).toNat = x.toNat / 256 := by omega
    have b0 : 0 ≤ x / 256 := by omega
    have b1 : x / 256 ≤ 255 := by omega
    have HF := Lib.hid (len_fit 8 (Lib.bitLen (x / 256).toNat) (Lib.bitLen x.toNat) _ (Lib.len8_of _ b0 b1) (Lib.bitLen_le8' _ b0 b1) (by decide) (by rw [e]; exact Lib.bitLen_shift8 _ (by omega) (by omega)))
    clear e
    go_enter Try.func52, Try.ntmps52
    go_wp2
    go_ret
    exact ⟨ret_int HF.out, rfl⟩
  by_cases a3 : x ≤ 16777215
  · have e : (x / 65536).toNat = x.toNat / 65536 := by omega
    have b0 : 0 ≤ x / 65536 := by omega
    have b1 : x / 65536 ≤ 255 := by omega
    have HF := Lib.hid (len_fit 16 (Lib.bitLen (x / 65536).toNat) (Lib.bitLen x.toNat) _ (Lib.len8_of _ b0 b1) (Lib.bitLen_le8' _ b0 b1) (by decide) (by rw [e]; exact Lib.bitLen_shift16 _ (by omega) (by omega)))
    clear e
    go_enter Try.func52, Try.ntmps52
    go_wp2
    go_ret
    exact ⟨ret_int HF.out, rfl⟩
  by_cases a4 : x ≤ 4294967295
  · have e : (x / 65536 / 256).toNat = x.toNat / 16777216 := by omega
    have b0 : 0 ≤ x / 65536 / 256 := by omega
    have b1 : x / 65536 / 256 ≤ 255 := by omega
    have HF := Lib.hid (len_fit 24 (Lib.bitLen (x / 65536 / 256).toNat) (Lib.bitLen x.toNat) _ (Lib.len8_of _ b0 b1) (Lib.bitLen_le8' _ b0 b1) (by decide) (by rw [e]; exact Lib.bitLen_shift24 _ (by omega) (by omega)))
    clear e
    go_enter Try.func52, Try.ntmps52
    go_wp2
    go_ret
    exact ⟨ret_int HF.out, rfl⟩
  by_cases a5 : x ≤ 1099511627775
  · have e : (x / 4294967296).toNat = x.toNat / 4294967296 := by omega
    have b0 : 0 ≤ x / 4294967296 := by omega
    have b1 : x / 4294967296 ≤ 255 := by omega
    have HF := Lib.hid (len_fit 32 (Lib.bitLen (x / 4294967296).toNat) (Lib.bitLen x.toNat) _ (Lib.len8_of _ b0 b1) (Lib.bitLen_le8' _ b0 b1) (by decide) (by rw [e]; exact Lib.bitLen_shift32 _ (by omega) (by omega)))
    clear e
    go_enter Try.func52, Try.ntmps52
    go_wp2
    go_ret
    exact ⟨ret_int HF.out, rfl⟩
  · have e : (x / 4294967296 / 256).toNat = x.toNat / 1099511627776 := by omega
    have b0 : 0 ≤ x / 4294967296 / 256 := by omega
    have b1 : x / 4294967296 / 256 ≤ 255 := by omega
    have HF := Lib.hid (len_fit 40 (Lib.bitLen (x / 4294967296 / 256).toNat) (Lib.bitLen x.toNat) _ (Lib.len8_of _ b0 b1) (Lib.bitLen_le8' _ b0 b1) (by decide) (by rw [e]; exact Lib.bitLen_shift40 _ (by omega) (by omega)))
    clear e
    go_enter Try.func52, Try.ntmps52
    go_wp2
    go_ret
    exact ⟨ret_int HF.out, rfl⟩

end Go.Proofs.Ytjaojhhcpggcpaa
