/-
  From a walk to a statement: a stamp among the arguments.
  No conditions.
-/
import Derived.Test.YthfhefdfehlbkaaGreatK35
set_option maxRecDepth 100000
namespace Go.Proofs.YthfhefdfehlbkaaGreat
open Go.ChangeShapes Go.WideShapes Go.RowKit
section
variable {H:Type} {enc:TypeId × Value→H} {W:World} {held:Bool}
theorem opened_stamp {r:Reach} {b0:Nat} {v:Value} {d:DataW H} {p:List MemPlace} (hv:Value.okWide Tryz.prog W r b0 35 v) (h:DataW.Trod enc Tryz.prog W 0 (fun _=>true) held 35 v d p):∃ x:Qm.St,v=.agg #[.int .i64 x.1,.int .i64 x.2]:=by
 obtain ⟨cs,rfl,hsz⟩:=okWide_struct Tryz.underlying35 hv
 have h3:cs.size=2:=hsz.trans (by kernel_rfl)
 obtain ⟨fuel,hf⟩:=h
 obtain ⟨x,hx⟩:=el_st fuel cs.toList (d,p) (by simpa using h3) hf
 refine ⟨x,?_⟩
 have:cs=(encSt x).toArray:=by rw [← hx]
 rw [this]; rfl
end
end Go.Proofs.YthfhefdfehlbkaaGreat
