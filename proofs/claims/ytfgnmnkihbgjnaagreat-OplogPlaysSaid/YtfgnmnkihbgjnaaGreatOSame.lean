/-
  Same: are two ops the same.
  No conditions but sizes.
-/
import Derived.Test.YtfgnmnkihbgjnaaGreatHC
namespace Go.Proofs.YtfgnmnkihbgjnaaGreat
open Go.RowKit
theorem bytes_ne {s t:ByteArray} (h:¬ s=t):(s.toList == t.toList)=false:=by
 rw [ByteArray.toList_eq,ByteArray.toList_eq,beq_eq_false_iff_ne]
 intro e
 apply h
 obtain ⟨⟨l⟩⟩:=s
 obtain ⟨⟨m⟩⟩:=t
 simp at e
 rw [e]
end Go.Proofs.YtfgnmnkihbgjnaaGreat
