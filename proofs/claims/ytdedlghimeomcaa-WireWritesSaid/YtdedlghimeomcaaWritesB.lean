/-
  WIREWRITES' WALK, a slice of at most 5000 bytes; and all together.
-/
import Derived.Test.YtdedlghimeomcaaWritesC
import Derived.Test.YtdedlghimeomcaaWritesD
import Derived.Deep.RegionWith
import Derived.Deep.DeepMust
namespace Go.Proofs.Ytdedlghimeomcaa
open Go.RowKit

theorem wireWrites_walk (n : Int) (s : ByteArray) (p : Option Addr) (c : Nat) (l : List UInt8) (w : World) (_wn : (Lit.int .i64 n).wf = true) (hs : s.size ≤ 140737488351232) (h : Bs w p l) (_hc : l.length ≤ c) (hpn : p = none → c = 0) (hl : l.length ≤ 140737488351232) :
    Calls Try.prog 3 #[.int .i64 n, .string s, .slice p l.length c] w fun e w' => e = .returned (.bool true) ∧ Below w.heap.size w w' := by
  by_cases hbig : 5000 < l.length
  · exact writes_large n s p c l w hs h hpn hl hbig
  · obtain ⟨X, E, hX, hXE⟩ := numW_two n
    obtain ⟨Y, G, hY, -, hYG⟩ := textW_two s.data.toList
    rcases hXE with ⟨rfl, x0, x1, x2, x3⟩ | ⟨rfl, rfl⟩ <;> rcases hYG with ⟨rfl, y0, y1, y2, y3⟩ | ⟨rfl, rfl⟩
    · exact writes_s1 n s p c l w hs h hpn hl hbig X hX x0 x1 x2 x3 Y hY y0 y1 y2 y3
    · exact writes_s2 n s p c l w hs h hpn hl hbig X hX x0 x1 x2 x3 hY
    · exact writes_s3 n s p c l w hs h hpn hl hbig hX Y hY y0 y1 y2 y3
    · exact writes_s4 n s p c l w hs h hpn hl hbig hX hY

end Go.Proofs.Ytdedlghimeomcaa
