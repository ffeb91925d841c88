/-
  FROM A LAW's WALK TO ITS STATEMENT: arguments that are texts and integers.
-/
import Derived.Test.YtdgcdepepfgkoaaBase
import Derived.ProofKit
import Derived.OpenShut
import Derived.ShutString
import Derived.SizedLaws
namespace Go.Proofs.Ytdgcdepepfgkoaa
open Go.ChangeShapes Go.WideShapes Go.ChangeAt Go.RowKit

theorem sized_str {s : ByteArray} (h : s.data.toList.length ≤ reachBytes) : s.size ≤ 140737488351232 := by
  have e : s.data.toList.length = s.size := by rw [Array.length_toList]; rfl
  rw [e] at h
  exact h

end Go.Proofs.Ytdgcdepepfgkoaa
