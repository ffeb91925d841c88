/-
  MAY A KEY BE (the program's Right).
  No conditions but sizes.
-/
import Derived.Test.YthfhefdfehlbkaaGreatSh
import Derived.Test.YthfhefdfehlbkaaGreatK01
set_option maxRecDepth 100000
set_option maxHeartbeats 400000
namespace Go.Proofs.YthfhefdfehlbkaaGreat
open Go.RowKit
theorem size_list (k:ByteArray):k.data.toList.length=k.size:=by rw [Array.length_toList]; rfl
theorem dg_at (k:ByteArray) (i:Nat) (h:i<k.size):Km.dg k.data.toList i=k[i].toNat:=by
 rw [Km.dg_get _ _ (by rw [size_list]; exact h)]
 rfl
theorem right_size {k:ByteArray}:Km.rightB k.data.toList=true↔1≤k.size∧k.size≤24∧0<Km.dg k.data.toList (k.size - 1):=by
 rw [Km.rightB_iff,size_list]
theorem right_no {k:ByteArray} (h:¬ (1≤k.size∧k.size≤24∧0<Km.dg k.data.toList (k.size - 1))):Km.rightB k.data.toList=false:=by
 cases e:Km.rightB k.data.toList
 ·rfl
 ·exact absurd (right_size.1 e) h
theorem right_last {k:ByteArray} (h0:0<k.size) (h1:k.size≤24):Km.rightB k.data.toList=(((k[k.size - 1]'(by omega)).toNat:Int) != 0):=by
 have hd:=dg_at k (k.size - 1) (by omega)
 by_cases h2:0<Km.dg k.data.toList (k.size - 1)
 ·rw [right_size.2 ⟨by omega,h1,h2⟩]
  rw [hd] at h2
  symm
  rw [bne_iff_ne]
  omega
 ·rw [right_no (by omega)]
  rw [hd] at h2
  symm
  rw [bne_eq_false_iff_eq]
  omega
theorem ret_bool {a b:Bool} (h:a=b):Ending.returned (.bool a)=.returned (.bool b):=by rw [h]
theorem kright_any (k:ByteArray) (w:World) (_:k.size≤140737488355328):Calls Tryz.prog 252 #[.string k] w fun e w'=>e=.returned (.bool (Km.rightB k.data.toList))∧w=w':=by
 by_cases h0:k.size=0
 ·have HR:=Hi (right_no (k:=k) (by omega))
  go_enter Tryz.func252,Tryz.ntmps252
  go_wp2
  go_ret
  exact ⟨ret_bool HR.out.symm,rfl⟩
 ·by_cases h1:k.size≤24
  ·have HR:=Hi (right_last (k:=k) (by omega) h1)
   go_enter Tryz.func252,Tryz.ntmps252
   go_wp2
   go_ret
   exact ⟨ret_bool HR.out.symm,rfl⟩
  ·have HR:=Hi (right_no (k:=k) (by omega))
   go_enter Tryz.func252,Tryz.ntmps252
   go_wp2
   go_ret
   exact ⟨ret_bool HR.out.symm,rfl⟩
end Go.Proofs.YthfhefdfehlbkaaGreat
