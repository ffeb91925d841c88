/-
  No cell of these rows narrows 'for every input' (looked for: loops, veiled, ifaces, maps, wideKeys, modest, calm, conditions, laid).
  DERIVED. THE GIVEN ROWS OF THIS SEAT. 10 by the template 'for every input the law returns true; each argument reads behind the call as it read before'; 0 by the template 'total and deterministic' (their statements: YthfhefdfehlbkaaGreatTotals.lean).
  GIVEN WITH THE SEED: the statements are not yours to turn. If you find one false, say at which input.
  Laid BY PROGRAM, IN A SANDBOX (cutbox-rows.mjs): the forced cells as the released guide's own fill.sh prints them over the translation de0551d12ab51573… (all of the seat's roots in one cut). By AI agents, Wed Nov 11 2026. No macro, syntax, notation, axiom, sorry.
-/
import Derived.Test.YthfhefdfehlbkaaGreatChecked
import GoSem.Claim
import GoSem.ClaimJoined
import GoSem.ClaimMapViews
import Derived.JoinedTies
import Derived.KernelRfl
namespace Go.Proofs.YthfhefdfehlbkaaGreat
/- THE CELL 'sum', in the pinned program and in every row, IS THE sha256 OF THE DUMP (.gsa) THAT YthfhefdfehlbkaaGreatProg.lean LOADS. Nothing in Lean hashes anything: it is a label: what it is worth is what the hold of that sum in a sandbox is worth. -/
noncomputable def Tryz.pinned : Pinned := { name := "ythfhefdfehlbkaagreat", sum := "de0551d12ab5157364adbf972bfb87df9ceb53126f424c1631798d91bef1b398", checked := Tryz.checked }
namespace Rows
def none {H : Type} : Left H := { results := [], args := [] }

/-- 'dioramalaw13.GraphPlays': WHATEVER THE INPUT: true; the input reads as it did. -/
def graphPlaysSpec : ChangeSpec := { name := "graphPlays", fn := fun _ => fun
  | [d1, d2] => { results := [.lit (.bool true)], args := [d1, d2] }
  | _ => none }
def graphPlaysRow : OpenClaim := { program := "ythfhefdfehlbkaagreat", sum := "de0551d12ab5157364adbf972bfb87df9ceb53126f424c1631798d91bef1b398", func := "diorama/dioramalaw13.GraphPlays", spec := "graphPlays", inPlace := ["slices.overlaps[*diorama/graph.line]", "(*internal/sync.Mutex).Lock", "internal/race.Disable", "sync/atomic.CompareAndSwapInt32", "internal/race.Enable", "internal/race.Acquire", "(*internal/sync.Mutex).lockSlow", "internal/sync.runtime_canSpin", "internal/sync.runtime_doSpin", "internal/sync.throw", "internal/sync.runtime_nanotime", "internal/sync.runtime_SemacquireMutex", "sync/atomic.AddInt32", "(*internal/sync.Mutex).Unlock", "internal/race.ReleaseMerge", "(*internal/sync.Mutex).unlockSlow", "internal/sync.fatal", "internal/sync.runtime_Semrelease", "internal/bytealg.abigen_runtime_cmpstring"], unfollowed := true, recurses := true, plainKeys := false, apart := false }
def GraphPlaysSaid : Prop := graphPlaysRow.holds Tryz.pinned (OpenSpec.ofChange graphPlaysSpec)

/-- ITS FALSE NEIGHBOUR: 'it returns false'. Refute it at one input. -/
def graphPlaysWrong : ChangeSpec := { name := "graphPlays", fn := fun _ => fun
  | [d1, d2] => { results := [.lit (.bool false)], args := [d1, d2] }
  | _ => none }
def GraphPlaysWrongFalsely : Prop := graphPlaysRow.holds Tryz.pinned (OpenSpec.ofChange graphPlaysWrong)

/-- 'dioramalaw14.DocPlays': WHATEVER THE INPUT: true; the input reads as it did. -/
def docPlaysSpec : ChangeSpec := { name := "docPlays", fn := fun _ => fun
  | [d1, d2] => { results := [.lit (.bool true)], args := [d1, d2] }
  | _ => none }
def docPlaysRow : OpenClaim := { program := "ythfhefdfehlbkaagreat", sum := "de0551d12ab5157364adbf972bfb87df9ceb53126f424c1631798d91bef1b398", func := "diorama/dioramalaw14.DocPlays", spec := "docPlays", inPlace := ["slices.overlaps[*diorama/graph.line]", "(*internal/sync.Mutex).Lock", "internal/race.Disable", "sync/atomic.CompareAndSwapInt32", "internal/race.Enable", "internal/race.Acquire", "(*internal/sync.Mutex).lockSlow", "internal/sync.runtime_canSpin", "internal/sync.runtime_doSpin", "internal/sync.throw", "internal/sync.runtime_nanotime", "internal/sync.runtime_SemacquireMutex", "sync/atomic.AddInt32", "(*internal/sync.Mutex).Unlock", "internal/race.ReleaseMerge", "(*internal/sync.Mutex).unlockSlow", "internal/sync.fatal", "internal/sync.runtime_Semrelease", "maps.clone", "internal/bytealg.abigen_runtime_cmpstring"], unfollowed := true, recurses := true, plainKeys := false, apart := false }
def DocPlaysSaid : Prop := docPlaysRow.holds Tryz.pinned (OpenSpec.ofChange docPlaysSpec)

/-- ITS FALSE NEIGHBOUR: 'it returns false'. Refute it at one input. -/
def docPlaysWrong : ChangeSpec := { name := "docPlays", fn := fun _ => fun
  | [d1, d2] => { results := [.lit (.bool false)], args := [d1, d2] }
  | _ => none }
def DocPlaysWrongFalsely : Prop := docPlaysRow.holds Tryz.pinned (OpenSpec.ofChange docPlaysWrong)

/-- 'dioramalaw14.DocNil': WHATEVER THE INPUT: true; the input reads as it did. -/
def docNilSpec : ChangeSpec := { name := "docNil", fn := fun _ => fun
  | [d1, d2, d3] => { results := [.lit (.bool true)], args := [d1, d2, d3] }
  | _ => none }
def docNilRow : OpenClaim := { program := "ythfhefdfehlbkaagreat", sum := "de0551d12ab5157364adbf972bfb87df9ceb53126f424c1631798d91bef1b398", func := "diorama/dioramalaw14.DocNil", spec := "docNil", inPlace := ["slices.overlaps[*diorama/graph.line]", "(*internal/sync.Mutex).Lock", "internal/race.Disable", "sync/atomic.CompareAndSwapInt32", "internal/race.Enable", "internal/race.Acquire", "(*internal/sync.Mutex).lockSlow", "internal/sync.runtime_canSpin", "internal/sync.runtime_doSpin", "internal/sync.throw", "internal/sync.runtime_nanotime", "internal/sync.runtime_SemacquireMutex", "sync/atomic.AddInt32", "(*internal/sync.Mutex).Unlock", "internal/race.ReleaseMerge", "(*internal/sync.Mutex).unlockSlow", "internal/sync.fatal", "internal/sync.runtime_Semrelease", "internal/bytealg.abigen_runtime_cmpstring", "maps.clone"], unfollowed := true, recurses := true, plainKeys := false, apart := false }
def DocNilSaid : Prop := docNilRow.holds Tryz.pinned (OpenSpec.ofChange docNilSpec)

/-- ITS FALSE NEIGHBOUR: 'it returns false'. Refute it at one input. -/
def docNilWrong : ChangeSpec := { name := "docNil", fn := fun _ => fun
  | [d1, d2, d3] => { results := [.lit (.bool false)], args := [d1, d2, d3] }
  | _ => none }
def DocNilWrongFalsely : Prop := docNilRow.holds Tryz.pinned (OpenSpec.ofChange docNilWrong)

/-- 'dioramalaw14.DocAnyOrder': WHATEVER THE INPUT: true; the input reads as it did. -/
def docAnyOrderSpec : ChangeSpec := { name := "docAnyOrder", fn := fun _ => fun
  | [d1, d2] => { results := [.lit (.bool true)], args := [d1, d2] }
  | _ => none }
def docAnyOrderRow : OpenClaim := { program := "ythfhefdfehlbkaagreat", sum := "de0551d12ab5157364adbf972bfb87df9ceb53126f424c1631798d91bef1b398", func := "diorama/dioramalaw14.DocAnyOrder", spec := "docAnyOrder", inPlace := ["slices.overlaps[*diorama/graph.line]", "(*internal/sync.Mutex).Lock", "internal/race.Disable", "sync/atomic.CompareAndSwapInt32", "internal/race.Enable", "internal/race.Acquire", "(*internal/sync.Mutex).lockSlow", "internal/sync.runtime_canSpin", "internal/sync.runtime_doSpin", "internal/sync.throw", "internal/sync.runtime_nanotime", "internal/sync.runtime_SemacquireMutex", "sync/atomic.AddInt32", "(*internal/sync.Mutex).Unlock", "internal/race.ReleaseMerge", "(*internal/sync.Mutex).unlockSlow", "internal/sync.fatal", "internal/sync.runtime_Semrelease", "internal/bytealg.abigen_runtime_cmpstring"], unfollowed := true, recurses := true, plainKeys := false, apart := false }
def DocAnyOrderSaid : Prop := docAnyOrderRow.holds Tryz.pinned (OpenSpec.ofChange docAnyOrderSpec)

/-- ITS FALSE NEIGHBOUR: 'it returns false'. Refute it at one input. -/
def docAnyOrderWrong : ChangeSpec := { name := "docAnyOrder", fn := fun _ => fun
  | [d1, d2] => { results := [.lit (.bool false)], args := [d1, d2] }
  | _ => none }
def DocAnyOrderWrongFalsely : Prop := docAnyOrderRow.holds Tryz.pinned (OpenSpec.ofChange docAnyOrderWrong)

/-- 'dioramalaw14.DocWhole': WHATEVER THE INPUT: true; the input reads as it did. -/
def docWholeSpec : ChangeSpec := { name := "docWhole", fn := fun _ => fun
  | [d] => { results := [.lit (.bool true)], args := [d] }
  | _ => none }
def docWholeRow : OpenClaim := { program := "ythfhefdfehlbkaagreat", sum := "de0551d12ab5157364adbf972bfb87df9ceb53126f424c1631798d91bef1b398", func := "diorama/dioramalaw14.DocWhole", spec := "docWhole", inPlace := ["slices.overlaps[*diorama/graph.line]", "(*internal/sync.Mutex).Lock", "internal/race.Disable", "sync/atomic.CompareAndSwapInt32", "internal/race.Enable", "internal/race.Acquire", "(*internal/sync.Mutex).lockSlow", "internal/sync.runtime_canSpin", "internal/sync.runtime_doSpin", "internal/sync.throw", "internal/sync.runtime_nanotime", "internal/sync.runtime_SemacquireMutex", "sync/atomic.AddInt32", "(*internal/sync.Mutex).Unlock", "internal/race.ReleaseMerge", "(*internal/sync.Mutex).unlockSlow", "internal/sync.fatal", "internal/sync.runtime_Semrelease", "maps.clone"], unfollowed := true, recurses := true, plainKeys := false, apart := false }
def DocWholeSaid : Prop := docWholeRow.holds Tryz.pinned (OpenSpec.ofChange docWholeSpec)

/-- ITS FALSE NEIGHBOUR: 'it returns false'. Refute it at one input. -/
def docWholeWrong : ChangeSpec := { name := "docWhole", fn := fun _ => fun
  | [d] => { results := [.lit (.bool false)], args := [d] }
  | _ => none }
def DocWholeWrongFalsely : Prop := docWholeRow.holds Tryz.pinned (OpenSpec.ofChange docWholeWrong)

/-- 'dioramalaw14.DocTrees': WHATEVER THE INPUT: true; the input reads as it did. -/
def docTreesSpec : ChangeSpec := { name := "docTrees", fn := fun _ => fun
  | [d] => { results := [.lit (.bool true)], args := [d] }
  | _ => none }
def docTreesRow : OpenClaim := { program := "ythfhefdfehlbkaagreat", sum := "de0551d12ab5157364adbf972bfb87df9ceb53126f424c1631798d91bef1b398", func := "diorama/dioramalaw14.DocTrees", spec := "docTrees", inPlace := ["slices.overlaps[*diorama/graph.line]", "(*internal/sync.Mutex).Lock", "internal/race.Disable", "sync/atomic.CompareAndSwapInt32", "internal/race.Enable", "internal/race.Acquire", "(*internal/sync.Mutex).lockSlow", "internal/sync.runtime_canSpin", "internal/sync.runtime_doSpin", "internal/sync.throw", "internal/sync.runtime_nanotime", "internal/sync.runtime_SemacquireMutex", "sync/atomic.AddInt32", "(*internal/sync.Mutex).Unlock", "internal/race.ReleaseMerge", "(*internal/sync.Mutex).unlockSlow", "internal/sync.fatal", "internal/sync.runtime_Semrelease", "internal/bytealg.abigen_runtime_cmpstring"], unfollowed := true, recurses := true, plainKeys := false, apart := false }
def DocTreesSaid : Prop := docTreesRow.holds Tryz.pinned (OpenSpec.ofChange docTreesSpec)

/-- ITS FALSE NEIGHBOUR: 'it returns false'. Refute it at one input. -/
def docTreesWrong : ChangeSpec := { name := "docTrees", fn := fun _ => fun
  | [d] => { results := [.lit (.bool false)], args := [d] }
  | _ => none }
def DocTreesWrongFalsely : Prop := docTreesRow.holds Tryz.pinned (OpenSpec.ofChange docTreesWrong)

/-- 'dioramalaw15.DrawNil': WHATEVER THE INPUT: true; the input reads as it did. -/
def drawNilSpec : ChangeSpec := { name := "drawNil", fn := fun _ => fun
  | [d1, d2, d3] => { results := [.lit (.bool true)], args := [d1, d2, d3] }
  | _ => none }
def drawNilRow : OpenClaim := { program := "ythfhefdfehlbkaagreat", sum := "de0551d12ab5157364adbf972bfb87df9ceb53126f424c1631798d91bef1b398", func := "diorama/dioramalaw15.DrawNil", spec := "drawNil", inPlace := ["(*internal/sync.Mutex).Lock", "internal/race.Disable", "sync/atomic.CompareAndSwapInt32", "internal/race.Enable", "internal/race.Acquire", "(*internal/sync.Mutex).lockSlow", "internal/sync.runtime_canSpin", "internal/sync.runtime_doSpin", "internal/sync.throw", "internal/sync.runtime_nanotime", "internal/sync.runtime_SemacquireMutex", "sync/atomic.AddInt32", "(*internal/sync.Mutex).Unlock", "internal/race.ReleaseMerge", "(*internal/sync.Mutex).unlockSlow", "internal/sync.fatal", "internal/sync.runtime_Semrelease", "internal/bytealg.abigen_runtime_cmpstring", "slices.overlaps[*diorama/graph.line]"], unfollowed := true, recurses := true, plainKeys := false, apart := false }
def DrawNilSaid : Prop := drawNilRow.holds Tryz.pinned (OpenSpec.ofChange drawNilSpec)

/-- ITS FALSE NEIGHBOUR: 'it returns false'. Refute it at one input. -/
def drawNilWrong : ChangeSpec := { name := "drawNil", fn := fun _ => fun
  | [d1, d2, d3] => { results := [.lit (.bool false)], args := [d1, d2, d3] }
  | _ => none }
def DrawNilWrongFalsely : Prop := drawNilRow.holds Tryz.pinned (OpenSpec.ofChange drawNilWrong)

/-- 'dioramalaw15.DrawOnce': WHATEVER THE INPUT: true; the input reads as it did. -/
def drawOnceSpec : ChangeSpec := { name := "drawOnce", fn := fun _ => fun
  | [d] => { results := [.lit (.bool true)], args := [d] }
  | _ => none }
def drawOnceRow : OpenClaim := { program := "ythfhefdfehlbkaagreat", sum := "de0551d12ab5157364adbf972bfb87df9ceb53126f424c1631798d91bef1b398", func := "diorama/dioramalaw15.DrawOnce", spec := "drawOnce", inPlace := ["slices.overlaps[*diorama/graph.line]", "(*internal/sync.Mutex).Lock", "internal/race.Disable", "sync/atomic.CompareAndSwapInt32", "internal/race.Enable", "internal/race.Acquire", "(*internal/sync.Mutex).lockSlow", "internal/sync.runtime_canSpin", "internal/sync.runtime_doSpin", "internal/sync.throw", "internal/sync.runtime_nanotime", "internal/sync.runtime_SemacquireMutex", "sync/atomic.AddInt32", "(*internal/sync.Mutex).Unlock", "internal/race.ReleaseMerge", "(*internal/sync.Mutex).unlockSlow", "internal/sync.fatal", "internal/sync.runtime_Semrelease", "internal/bytealg.abigen_runtime_cmpstring"], unfollowed := true, recurses := true, plainKeys := false, apart := false }
def DrawOnceSaid : Prop := drawOnceRow.holds Tryz.pinned (OpenSpec.ofChange drawOnceSpec)

/-- ITS FALSE NEIGHBOUR: 'it returns false'. Refute it at one input. -/
def drawOnceWrong : ChangeSpec := { name := "drawOnce", fn := fun _ => fun
  | [d] => { results := [.lit (.bool false)], args := [d] }
  | _ => none }
def DrawOnceWrongFalsely : Prop := drawOnceRow.holds Tryz.pinned (OpenSpec.ofChange drawOnceWrong)

/-- 'dioramalaw15.DrawOrder': WHATEVER THE INPUT: true; the input reads as it did. -/
def drawOrderSpec : ChangeSpec := { name := "drawOrder", fn := fun _ => fun
  | [d] => { results := [.lit (.bool true)], args := [d] }
  | _ => none }
def drawOrderRow : OpenClaim := { program := "ythfhefdfehlbkaagreat", sum := "de0551d12ab5157364adbf972bfb87df9ceb53126f424c1631798d91bef1b398", func := "diorama/dioramalaw15.DrawOrder", spec := "drawOrder", inPlace := ["slices.overlaps[*diorama/graph.line]", "(*internal/sync.Mutex).Lock", "internal/race.Disable", "sync/atomic.CompareAndSwapInt32", "internal/race.Enable", "internal/race.Acquire", "(*internal/sync.Mutex).lockSlow", "internal/sync.runtime_canSpin", "internal/sync.runtime_doSpin", "internal/sync.throw", "internal/sync.runtime_nanotime", "internal/sync.runtime_SemacquireMutex", "sync/atomic.AddInt32", "(*internal/sync.Mutex).Unlock", "internal/race.ReleaseMerge", "(*internal/sync.Mutex).unlockSlow", "internal/sync.fatal", "internal/sync.runtime_Semrelease", "internal/bytealg.abigen_runtime_cmpstring"], unfollowed := true, recurses := true, plainKeys := false, apart := false }
def DrawOrderSaid : Prop := drawOrderRow.holds Tryz.pinned (OpenSpec.ofChange drawOrderSpec)

/-- ITS FALSE NEIGHBOUR: 'it returns false'. Refute it at one input. -/
def drawOrderWrong : ChangeSpec := { name := "drawOrder", fn := fun _ => fun
  | [d] => { results := [.lit (.bool false)], args := [d] }
  | _ => none }
def DrawOrderWrongFalsely : Prop := drawOrderRow.holds Tryz.pinned (OpenSpec.ofChange drawOrderWrong)

/-- 'dioramalaw15.DrawSame': WHATEVER THE INPUT: true; the input reads as it did. -/
def drawSameSpec : ChangeSpec := { name := "drawSame", fn := fun _ => fun
  | [d1, d2, d3] => { results := [.lit (.bool true)], args := [d1, d2, d3] }
  | _ => none }
def drawSameRow : OpenClaim := { program := "ythfhefdfehlbkaagreat", sum := "de0551d12ab5157364adbf972bfb87df9ceb53126f424c1631798d91bef1b398", func := "diorama/dioramalaw15.DrawSame", spec := "drawSame", inPlace := ["slices.overlaps[*diorama/graph.line]", "(*internal/sync.Mutex).Lock", "internal/race.Disable", "sync/atomic.CompareAndSwapInt32", "internal/race.Enable", "internal/race.Acquire", "(*internal/sync.Mutex).lockSlow", "internal/sync.runtime_canSpin", "internal/sync.runtime_doSpin", "internal/sync.throw", "internal/sync.runtime_nanotime", "internal/sync.runtime_SemacquireMutex", "sync/atomic.AddInt32", "(*internal/sync.Mutex).Unlock", "internal/race.ReleaseMerge", "(*internal/sync.Mutex).unlockSlow", "internal/sync.fatal", "internal/sync.runtime_Semrelease", "internal/bytealg.abigen_runtime_cmpstring"], unfollowed := true, recurses := true, plainKeys := false, apart := false }
def DrawSameSaid : Prop := drawSameRow.holds Tryz.pinned (OpenSpec.ofChange drawSameSpec)

/-- ITS FALSE NEIGHBOUR: 'it returns false'. Refute it at one input. -/
def drawSameWrong : ChangeSpec := { name := "drawSame", fn := fun _ => fun
  | [d1, d2, d3] => { results := [.lit (.bool false)], args := [d1, d2, d3] }
  | _ => none }
def DrawSameWrongFalsely : Prop := drawSameRow.holds Tryz.pinned (OpenSpec.ofChange drawSameWrong)

/- THE SECOND FORM. 'bulk': how many values and letters a reading holds, each counted each time it is reached (what is shared counts as often as it is met; a slice's spare places count too). A statement '..UptoSaid' is the law's where the arguments, and the package variables that the reading takes, are together of bulk at most 1048576: NARROWER than '..Said'. Prove '..Said' where nothing that the law and all that it calls make is longer than what came in: it says more and counts as full. Else prove '..UptoSaid'. A law counts once. -/
mutual
def uptoBulk {H : Type} : DataW H → Nat
  | .lit (.string bytes) => bytes.length + 1
  | .lit _ => 1
  | .nil => 1
  | .ptr d => uptoBulk d + 1
  | .slice elems spare => uptoBulkAll elems + uptoBulkAll spare + 1
  | .agg parts => uptoBulkAll parts + 1
  | .iface _ d => uptoBulk d + 1
  | .map entries => uptoBulkEntries entries + 1
  | .held _ => 1
def uptoBulkAll {H : Type} : List (DataW H) → Nat
  | [] => 0
  | d :: r => uptoBulk d + uptoBulkAll r
def uptoBulkEntries {H : Type} : List (Lit × DataW H) → Nat
  | [] => 0
  | x :: r => uptoBulkEntry x + uptoBulkEntries r
def uptoBulkEntry {H : Type} : Lit × DataW H → Nat
  | (.string bytes, d) => bytes.length + uptoBulk d + 1
  | (_, d) => uptoBulk d + 1
 end
def uptoSmall : (H : Type) → List (DataW H) → Bool := fun _ ds => decide (uptoBulkAll ds ≤ 1048576)
def OpenSpec.upto (s : _root_.Go.ChangeSpec) : _root_.Go.OpenSpec := { _root_.Go.OpenSpec.ofChange s with cond := some uptoSmall }

/-- 'dioramalaw13.GraphPlays', WHERE WHAT IT READS IS OF BULK AT MOST 1048576: true; the input reads as it did. -/
def graphPlaysUptoRow : OpenClaim := { program := "ythfhefdfehlbkaagreat", sum := "de0551d12ab5157364adbf972bfb87df9ceb53126f424c1631798d91bef1b398", func := "diorama/dioramalaw13.GraphPlays", spec := "graphPlays", inPlace := ["slices.overlaps[*diorama/graph.line]", "(*internal/sync.Mutex).Lock", "internal/race.Disable", "sync/atomic.CompareAndSwapInt32", "internal/race.Enable", "internal/race.Acquire", "(*internal/sync.Mutex).lockSlow", "internal/sync.runtime_canSpin", "internal/sync.runtime_doSpin", "internal/sync.throw", "internal/sync.runtime_nanotime", "internal/sync.runtime_SemacquireMutex", "sync/atomic.AddInt32", "(*internal/sync.Mutex).Unlock", "internal/race.ReleaseMerge", "(*internal/sync.Mutex).unlockSlow", "internal/sync.fatal", "internal/sync.runtime_Semrelease", "internal/bytealg.abigen_runtime_cmpstring"], unfollowed := true, recurses := true, plainKeys := false, apart := false, narrowed := true }
def GraphPlaysUptoSaid : Prop := graphPlaysUptoRow.holds Tryz.pinned (OpenSpec.upto graphPlaysSpec)

/-- 'dioramalaw14.DocPlays', WHERE WHAT IT READS IS OF BULK AT MOST 1048576: true; the input reads as it did. -/
def docPlaysUptoRow : OpenClaim := { program := "ythfhefdfehlbkaagreat", sum := "de0551d12ab5157364adbf972bfb87df9ceb53126f424c1631798d91bef1b398", func := "diorama/dioramalaw14.DocPlays", spec := "docPlays", inPlace := ["slices.overlaps[*diorama/graph.line]", "(*internal/sync.Mutex).Lock", "internal/race.Disable", "sync/atomic.CompareAndSwapInt32", "internal/race.Enable", "internal/race.Acquire", "(*internal/sync.Mutex).lockSlow", "internal/sync.runtime_canSpin", "internal/sync.runtime_doSpin", "internal/sync.throw", "internal/sync.runtime_nanotime", "internal/sync.runtime_SemacquireMutex", "sync/atomic.AddInt32", "(*internal/sync.Mutex).Unlock", "internal/race.ReleaseMerge", "(*internal/sync.Mutex).unlockSlow", "internal/sync.fatal", "internal/sync.runtime_Semrelease", "maps.clone", "internal/bytealg.abigen_runtime_cmpstring"], unfollowed := true, recurses := true, plainKeys := false, apart := false, narrowed := true }
def DocPlaysUptoSaid : Prop := docPlaysUptoRow.holds Tryz.pinned (OpenSpec.upto docPlaysSpec)

/-- 'dioramalaw14.DocNil', WHERE WHAT IT READS IS OF BULK AT MOST 1048576: true; the input reads as it did. -/
def docNilUptoRow : OpenClaim := { program := "ythfhefdfehlbkaagreat", sum := "de0551d12ab5157364adbf972bfb87df9ceb53126f424c1631798d91bef1b398", func := "diorama/dioramalaw14.DocNil", spec := "docNil", inPlace := ["slices.overlaps[*diorama/graph.line]", "(*internal/sync.Mutex).Lock", "internal/race.Disable", "sync/atomic.CompareAndSwapInt32", "internal/race.Enable", "internal/race.Acquire", "(*internal/sync.Mutex).lockSlow", "internal/sync.runtime_canSpin", "internal/sync.runtime_doSpin", "internal/sync.throw", "internal/sync.runtime_nanotime", "internal/sync.runtime_SemacquireMutex", "sync/atomic.AddInt32", "(*internal/sync.Mutex).Unlock", "internal/race.ReleaseMerge", "(*internal/sync.Mutex).unlockSlow", "internal/sync.fatal", "internal/sync.runtime_Semrelease", "internal/bytealg.abigen_runtime_cmpstring", "maps.clone"], unfollowed := true, recurses := true, plainKeys := false, apart := false, narrowed := true }
def DocNilUptoSaid : Prop := docNilUptoRow.holds Tryz.pinned (OpenSpec.upto docNilSpec)

/-- 'dioramalaw14.DocAnyOrder', WHERE WHAT IT READS IS OF BULK AT MOST 1048576: true; the input reads as it did. -/
def docAnyOrderUptoRow : OpenClaim := { program := "ythfhefdfehlbkaagreat", sum := "de0551d12ab5157364adbf972bfb87df9ceb53126f424c1631798d91bef1b398", func := "diorama/dioramalaw14.DocAnyOrder", spec := "docAnyOrder", inPlace := ["slices.overlaps[*diorama/graph.line]", "(*internal/sync.Mutex).Lock", "internal/race.Disable", "sync/atomic.CompareAndSwapInt32", "internal/race.Enable", "internal/race.Acquire", "(*internal/sync.Mutex).lockSlow", "internal/sync.runtime_canSpin", "internal/sync.runtime_doSpin", "internal/sync.throw", "internal/sync.runtime_nanotime", "internal/sync.runtime_SemacquireMutex", "sync/atomic.AddInt32", "(*internal/sync.Mutex).Unlock", "internal/race.ReleaseMerge", "(*internal/sync.Mutex).unlockSlow", "internal/sync.fatal", "internal/sync.runtime_Semrelease", "internal/bytealg.abigen_runtime_cmpstring"], unfollowed := true, recurses := true, plainKeys := false, apart := false, narrowed := true }
def DocAnyOrderUptoSaid : Prop := docAnyOrderUptoRow.holds Tryz.pinned (OpenSpec.upto docAnyOrderSpec)

/-- 'dioramalaw14.DocWhole', WHERE WHAT IT READS IS OF BULK AT MOST 1048576: true; the input reads as it did. -/
def docWholeUptoRow : OpenClaim := { program := "ythfhefdfehlbkaagreat", sum := "de0551d12ab5157364adbf972bfb87df9ceb53126f424c1631798d91bef1b398", func := "diorama/dioramalaw14.DocWhole", spec := "docWhole", inPlace := ["slices.overlaps[*diorama/graph.line]", "(*internal/sync.Mutex).Lock", "internal/race.Disable", "sync/atomic.CompareAndSwapInt32", "internal/race.Enable", "internal/race.Acquire", "(*internal/sync.Mutex).lockSlow", "internal/sync.runtime_canSpin", "internal/sync.runtime_doSpin", "internal/sync.throw", "internal/sync.runtime_nanotime", "internal/sync.runtime_SemacquireMutex", "sync/atomic.AddInt32", "(*internal/sync.Mutex).Unlock", "internal/race.ReleaseMerge", "(*internal/sync.Mutex).unlockSlow", "internal/sync.fatal", "internal/sync.runtime_Semrelease", "maps.clone"], unfollowed := true, recurses := true, plainKeys := false, apart := false, narrowed := true }
def DocWholeUptoSaid : Prop := docWholeUptoRow.holds Tryz.pinned (OpenSpec.upto docWholeSpec)

/-- 'dioramalaw14.DocTrees', WHERE WHAT IT READS IS OF BULK AT MOST 1048576: true; the input reads as it did. -/
def docTreesUptoRow : OpenClaim := { program := "ythfhefdfehlbkaagreat", sum := "de0551d12ab5157364adbf972bfb87df9ceb53126f424c1631798d91bef1b398", func := "diorama/dioramalaw14.DocTrees", spec := "docTrees", inPlace := ["slices.overlaps[*diorama/graph.line]", "(*internal/sync.Mutex).Lock", "internal/race.Disable", "sync/atomic.CompareAndSwapInt32", "internal/race.Enable", "internal/race.Acquire", "(*internal/sync.Mutex).lockSlow", "internal/sync.runtime_canSpin", "internal/sync.runtime_doSpin", "internal/sync.throw", "internal/sync.runtime_nanotime", "internal/sync.runtime_SemacquireMutex", "sync/atomic.AddInt32", "(*internal/sync.Mutex).Unlock", "internal/race.ReleaseMerge", "(*internal/sync.Mutex).unlockSlow", "internal/sync.fatal", "internal/sync.runtime_Semrelease", "internal/bytealg.abigen_runtime_cmpstring"], unfollowed := true, recurses := true, plainKeys := false, apart := false, narrowed := true }
def DocTreesUptoSaid : Prop := docTreesUptoRow.holds Tryz.pinned (OpenSpec.upto docTreesSpec)

/-- 'dioramalaw15.DrawNil', WHERE WHAT IT READS IS OF BULK AT MOST 1048576: true; the input reads as it did. -/
def drawNilUptoRow : OpenClaim := { program := "ythfhefdfehlbkaagreat", sum := "de0551d12ab5157364adbf972bfb87df9ceb53126f424c1631798d91bef1b398", func := "diorama/dioramalaw15.DrawNil", spec := "drawNil", inPlace := ["(*internal/sync.Mutex).Lock", "internal/race.Disable", "sync/atomic.CompareAndSwapInt32", "internal/race.Enable", "internal/race.Acquire", "(*internal/sync.Mutex).lockSlow", "internal/sync.runtime_canSpin", "internal/sync.runtime_doSpin", "internal/sync.throw", "internal/sync.runtime_nanotime", "internal/sync.runtime_SemacquireMutex", "sync/atomic.AddInt32", "(*internal/sync.Mutex).Unlock", "internal/race.ReleaseMerge", "(*internal/sync.Mutex).unlockSlow", "internal/sync.fatal", "internal/sync.runtime_Semrelease", "internal/bytealg.abigen_runtime_cmpstring", "slices.overlaps[*diorama/graph.line]"], unfollowed := true, recurses := true, plainKeys := false, apart := false, narrowed := true }
def DrawNilUptoSaid : Prop := drawNilUptoRow.holds Tryz.pinned (OpenSpec.upto drawNilSpec)

/-- 'dioramalaw15.DrawOnce', WHERE WHAT IT READS IS OF BULK AT MOST 1048576: true; the input reads as it did. -/
def drawOnceUptoRow : OpenClaim := { program := "ythfhefdfehlbkaagreat", sum := "de0551d12ab5157364adbf972bfb87df9ceb53126f424c1631798d91bef1b398", func := "diorama/dioramalaw15.DrawOnce", spec := "drawOnce", inPlace := ["slices.overlaps[*diorama/graph.line]", "(*internal/sync.Mutex).Lock", "internal/race.Disable", "sync/atomic.CompareAndSwapInt32", "internal/race.Enable", "internal/race.Acquire", "(*internal/sync.Mutex).lockSlow", "internal/sync.runtime_canSpin", "internal/sync.runtime_doSpin", "internal/sync.throw", "internal/sync.runtime_nanotime", "internal/sync.runtime_SemacquireMutex", "sync/atomic.AddInt32", "(*internal/sync.Mutex).Unlock", "internal/race.ReleaseMerge", "(*internal/sync.Mutex).unlockSlow", "internal/sync.fatal", "internal/sync.runtime_Semrelease", "internal/bytealg.abigen_runtime_cmpstring"], unfollowed := true, recurses := true, plainKeys := false, apart := false, narrowed := true }
def DrawOnceUptoSaid : Prop := drawOnceUptoRow.holds Tryz.pinned (OpenSpec.upto drawOnceSpec)

/-- 'dioramalaw15.DrawOrder', WHERE WHAT IT READS IS OF BULK AT MOST 1048576: true; the input reads as it did. -/
def drawOrderUptoRow : OpenClaim := { program := "ythfhefdfehlbkaagreat", sum := "de0551d12ab5157364adbf972bfb87df9ceb53126f424c1631798d91bef1b398", func := "diorama/dioramalaw15.DrawOrder", spec := "drawOrder", inPlace := ["slices.overlaps[*diorama/graph.line]", "(*internal/sync.Mutex).Lock", "internal/race.Disable", "sync/atomic.CompareAndSwapInt32", "internal/race.Enable", "internal/race.Acquire", "(*internal/sync.Mutex).lockSlow", "internal/sync.runtime_canSpin", "internal/sync.runtime_doSpin", "internal/sync.throw", "internal/sync.runtime_nanotime", "internal/sync.runtime_SemacquireMutex", "sync/atomic.AddInt32", "(*internal/sync.Mutex).Unlock", "internal/race.ReleaseMerge", "(*internal/sync.Mutex).unlockSlow", "internal/sync.fatal", "internal/sync.runtime_Semrelease", "internal/bytealg.abigen_runtime_cmpstring"], unfollowed := true, recurses := true, plainKeys := false, apart := false, narrowed := true }
def DrawOrderUptoSaid : Prop := drawOrderUptoRow.holds Tryz.pinned (OpenSpec.upto drawOrderSpec)

/-- 'dioramalaw15.DrawSame', WHERE WHAT IT READS IS OF BULK AT MOST 1048576: true; the input reads as it did. -/
def drawSameUptoRow : OpenClaim := { program := "ythfhefdfehlbkaagreat", sum := "de0551d12ab5157364adbf972bfb87df9ceb53126f424c1631798d91bef1b398", func := "diorama/dioramalaw15.DrawSame", spec := "drawSame", inPlace := ["slices.overlaps[*diorama/graph.line]", "(*internal/sync.Mutex).Lock", "internal/race.Disable", "sync/atomic.CompareAndSwapInt32", "internal/race.Enable", "internal/race.Acquire", "(*internal/sync.Mutex).lockSlow", "internal/sync.runtime_canSpin", "internal/sync.runtime_doSpin", "internal/sync.throw", "internal/sync.runtime_nanotime", "internal/sync.runtime_SemacquireMutex", "sync/atomic.AddInt32", "(*internal/sync.Mutex).Unlock", "internal/race.ReleaseMerge", "(*internal/sync.Mutex).unlockSlow", "internal/sync.fatal", "internal/sync.runtime_Semrelease", "internal/bytealg.abigen_runtime_cmpstring"], unfollowed := true, recurses := true, plainKeys := false, apart := false, narrowed := true }
def DrawSameUptoSaid : Prop := drawSameUptoRow.holds Tryz.pinned (OpenSpec.upto drawSameSpec)

end Rows
end Go.Proofs.YthfhefdfehlbkaaGreat
