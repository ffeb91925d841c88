/-
  Clone of a tree: a tree of its own, of the same nodes at the same spots.
  No conditions.
  maps.Equal of two trees' spots, where both tell the same.
  No conditions.
  Same of two trees that tell the same.
  No conditions.
  maps.Equal of two graphs' masters, where both tell the same.
  No conditions.
  TWO GRAPHS beside each other; Same of two that tell the same.
  No conditions but sizes.
  slices.Clone of a graph's lines and of what takes them back: a row of its own.
  No conditions but sizes.
  Clone of a graph: a graph of its own, of the same ops; lines, and what takes them back, both share.
  No conditions but sizes.
  A GRAPH's LOOKS: Ref.
  No conditions but sizes.
  A GRAPH THAT A LAW HAS MADE, or it and its copy, beside boxes of the law's: what each call leaves.
  No conditions but sizes.
  A GRAPH's LOOKS: Reaches.
  No conditions but sizes.
  A GRAPH THAT A LAW HAS MADE, beside boxes and rows of the law's: what each look leaves.
  No conditions but sizes.
-/
import Derived.Test.YthfhefdfehlbkaaGreatK17
import Derived.Test.YthfhefdfehlbkaaGreatK29
import Derived.Test.YthfhefdfehlbkaaGreatK23
import Derived.Test.YthfhefdfehlbkaaGreatK24
namespace Go.Proofs.YthfhefdfehlbkaaGreat
open Go.RowKit
open Tm (Sp Tr has put cut kids)
open Go.RowKit
open Tm (Sp Tr has put cut kids)
attribute [local go_sem] Oper.semAt_some
open Go.RowKit
open Tm (Sp Tr has put cut kids)
open Go.RowKit
open Tm (Sp Tr has put cut kids)
attribute [local go_sem] Oper.semAt_some
open Go.RowKit
open Tm (Sp Tr has put cut kids)
theorem alikeT_of {T U:Tr} (h1:(T.map Prod.fst).Nodup) (h2:(U.map Prod.fst).Nodup) (h:∀ n,Tm.look T n=Tm.look U n):Tm.Alike T U:=by
 have half:∀ {T U:Tr},(T.map Prod.fst).Nodup→(U.map Prod.fst).Nodup→(∀ n,Tm.look T n=Tm.look U n)→T.length≤U.length:=fun {T U} h1 _ h=>by
  have h3:=Tm.len_le (b:=U.map Prod.fst) h1 fun n hn=>by
   obtain ⟨e,he,rfl⟩:=List.mem_map.1 hn
   have h4:=h e.1
   rw [Tm.look_some h1 (n:=e.1) (s:=e.2) he] at h4
   exact List.mem_map.2 ⟨(e.1,e.2),Tm.look_mem h4.symm,rfl⟩
  simpa using h3
 exact ⟨Nat.le_antisymm (half h1 h2 h) (half h2 h1 fun n=>(h n).symm),h⟩
open Go.RowKit
open Tm (Sp Tr has put cut kids)
open Go.RowKit
open Tm (Sp Tr has put cut kids)
abbrev CpT:=Nat × Nat × Nat × Tr × List Kid
section
variable {w W W':World} {X:Gx} {χ χ2:Nat→Nat} {a b:Option (Option Addr × Nat)} {t:Option CpT} {m1 m2:Option Nat}
end
section
variable {w W W':World} {X O:Gx} {χ χ2:Nat→Nat}
end
open Go.RowKit
open Tm (Sp Tr has put cut kids)
open Go.RowKit
open Tm (Sp Tr has put cut kids)
abbrev Bxs:=List (Nat × Array Value)
section
variable {w w0 W W':World} {gg hh:Nat} {ops ops' ops1:List Pm.Wr} {χ χ' χ1:Nat→Nat} {bs:Bxs}
end
open Go.RowKit
open Tm (Sp Tr has put cut kids)
open Go.RowKit
open Tm (Sp Tr has put cut kids)
abbrev Rws:=List (Option Addr × List Value)
section
variable {w W W':World} {gg:Nat} {ops ops1:List Pm.Wr} {χ χ1:Nat→Nat} {bs:Bxs} {rs:Rws}
end
theorem exec_load_stH {c:Act} {o:Oper} {x:Operand} {w:World} (ho:o.op=.load 35 x) {b s i:Nat} (hx:c.eval x=.pointer (some ⟨b,s+i * 2,none⟩)) {l:List Qm.St} {y1 y2:Int} (hrd:Rd w (some ⟨b,s,none⟩) (stCells l)) (hi:l[i]?=some (y1,y2)) :
  (execOp c.eval o).run Tryz.prog w=.ok (.value (.agg #[.int .i64 y1,.int .i64 y2])) w:=stK.load ho hx hrd hi
theorem exec_load_stH0 {c:Act} {o:Oper} {x:Operand} {w:World} (ho:o.op=.load 35 x) {b s:Nat} (hx:c.eval x=.pointer (some ⟨b,s,none⟩)) {l:List Qm.St} {y1 y2:Int} (hrd:Rd w (some ⟨b,s,none⟩) (stCells l)) (hi:l[0]?=some (y1,y2)) :
  (execOp c.eval o).run Tryz.prog w=.ok (.value (.agg #[.int .i64 y1,.int .i64 y2])) w:=stK.load (i:=0) ho (by rw [hx,Nat.zero_mul,Nat.add_zero]) hrd hi
theorem exec_neq_stH {c:Act} {o:Oper} {x y:Operand} {ty:TypeId} (ho:o.op=.binOp .neq 35 x y ty) {w:World} (p q:Qm.St) (hx:c.eval x=snV p) (hy:c.eval y=snV q) {b:Bool} (hb:decide (p=q) = !b) :
  (execOp c.eval o).run Tryz.prog w=.ok (.value (.bool b)) w:=by
 have h1:b = !decide (p=q):=by rw [hb,Bool.not_not]
 rw [h1]
 obtain ⟨a,b⟩:=p
 obtain ⟨d,e⟩:=q
 unfold execOp
 simp only [ho,hx,hy]
 go_simp
 by_cases h1:a=d <;> by_cases h2:b=e <;> simp [h1,h2]
end Go.Proofs.YthfhefdfehlbkaaGreat
