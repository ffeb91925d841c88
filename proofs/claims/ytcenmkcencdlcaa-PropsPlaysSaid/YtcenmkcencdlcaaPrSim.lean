/-
  THE LAW's FOUR, by what was done so far; the calls on them.
  No conditions but sizes.
-/
import Derived.Test.YtcenmkcencdlcaaPrTwin
import Derived.Test.YtcenmkcencdlcaaPrLink
import Derived.Test.YtcenmkcencdlcaaPrRSame
import Derived.Test.YtcenmkcencdlcaaPrLook
namespace Go.Proofs.Ytcenmkcencdlcaa
open Go.RowKit

/-- the program's two have had ua, ub, the document's two ta, tb; O is none of theirs -/
def Sim (w0 w : World) (m n : Blk) (R1 R2 B1 B2 : Nat) (O : Nat → Prop) (ua ub ta tb : List Pm.Wr) : Prop :=
  ∃ La Lb pa pb ca cb Fa Fb, Four w0 w m n R1 R2 (Pm.allR ua) (Pm.allR ub) La Lb pa pb ca cb B1 B2 Fa Fb ∧ pl La = ta.filter Pm.kept ∧ pl Lb = tb.filter Pm.kept ∧ ∀ k, O k → k < w.heap.size ∧ w0.heap.size ≤ k ∧ m.all (k ≠ ·) ∧ n.all (k ≠ ·) ∧ ¬ Fa k ∧ ¬ Fb k
/-- few and short -/
structure SmT (t : List Pm.Wr) : Prop where
  len : t.length ≤ 200
  each : ∀ w ∈ t, w.x.path.length ≤ 200
theorem SmT.l {t : List Pm.Wr} (h : SmT t) {L : List WrE} (hL : pl L = t.filter Pm.kept) : LSz L := by
  refine ⟨?_, fun e he => ?_⟩
  · have h5 : (pl L).length ≤ t.length := by rw [hL]; exact List.length_filter_le ..
    have h6 : (pl L).length = L.length := by unfold pl; exact List.length_map ..
    have := h.len
    omega
  · have h5 : e.w ∈ pl L := List.mem_map.2 ⟨e, he, rfl⟩
    rw [hL] at h5
    exact h.each _ (List.mem_filter.1 h5).1
theorem SmT.take {t : List Pm.Wr} (h : SmT t) (k : Nat) : SmT (t.take k) := ⟨by have := h.len; rw [List.length_take]; omega, fun w hw => h.each w (List.mem_of_mem_take hw)⟩
theorem filter_snoc (t : List Pm.Wr) (y : Pm.Wr) : (t ++ [y]).filter Pm.kept = if Pm.kept y = true then t.filter Pm.kept ++ [y] else t.filter Pm.kept := by
  rw [List.filter_append]
  cases h : Pm.kept y <;> simp [List.filter, h]
section
variable {w0 w w' : World} {m n : Blk} {R1 R2 B1 B2 : Nat} {O : Nat → Prop} {ua ub ta tb : List Pm.Wr}
theorem Sim.kept (h : Sim w0 w m n R1 R2 B1 B2 O ua ub ta tb) (hb : Below w.heap.size w w') : Sim w0 w' m n R1 R2 B1 B2 O ua ub ta tb := by
  obtain ⟨La, Lb, pa, pb, ca, cb, Fa, Fb, hf, h1, h2, h3⟩ := h
  exact ⟨La, Lb, pa, pb, ca, cb, Fa, Fb, hf.kept hb, h1, h2, fun k hk => ⟨Nat.lt_of_lt_of_le (h3 k hk).1 hb.size, (h3 k hk).2⟩⟩
theorem Sim.turns (h : Sim w0 w m n R1 R2 B1 B2 O ua ub ta tb) (ht : Turns O w w') : Sim w0 w' m n R1 R2 B1 B2 O ua ub ta tb := by
  obtain ⟨La, Lb, pa, pb, ca, cb, Fa, Fb, hf, h1, h2, h3⟩ := h
  exact ⟨La, Lb, pa, pb, ca, cb, Fa, Fb, hf.turns ht (fun k hk => (h3 k hk).2), h1, h2, fun k hk => ⟨Nat.lt_of_lt_of_le (h3 k hk).1 ht.size, (h3 k hk).2⟩⟩
theorem Sim.fresh (h : Sim w0 w m n R1 R2 B1 B2 O ua ub ta tb) (hb : Below w.heap.size w w') {O' : Nat → Prop} (hO : ∀ k, O' k → w.heap.size ≤ k ∧ k < w'.heap.size) : Sim w0 w' m n R1 R2 B1 B2 O' ua ub ta tb := by
  obtain ⟨La, Lb, pa, pb, ca, cb, Fa, Fb, hf, h1, h2, h3⟩ := h
  exact ⟨La, Lb, pa, pb, ca, cb, Fa, Fb, hf.kept hb, h1, h2, fun k hk => ⟨(hO k hk).2, hf.fresh (hO k hk).1⟩⟩
theorem Sim.drop (h : Sim w0 w m n R1 R2 B1 B2 O ua ub ta tb) : Sim w0 w m n R1 R2 B1 B2 (fun _ => False) ua ub ta tb := by
  obtain ⟨La, Lb, pa, pb, ca, cb, Fa, Fb, hf, h1, h2, h3⟩ := h
  exact ⟨La, Lb, pa, pb, ca, cb, Fa, Fb, hf, h1, h2, fun k hk => hk.elim⟩
theorem Sim.bel (h : Sim w0 w m n R1 R2 B1 B2 O ua ub ta tb) : Below w0.heap.size w0 w := by
  obtain ⟨La, Lb, pa, pb, ca, cb, Fa, Fb, hf, h1, h2, h3⟩ := h
  exact hf.bel
theorem Sim.lr (h : Sim w0 w m n R1 R2 B1 B2 O ua ub ta tb) : Lay w m.P m.a m.b m.c (Pm.allR ua) := by
  obtain ⟨La, Lb, pa, pb, ca, cb, Fa, Fb, hf, h1, h2, h3⟩ := h
  exact hf.lr
theorem Sim.ls (h : Sim w0 w m n R1 R2 B1 B2 O ua ub ta tb) : Lay w n.P n.a n.b n.c (Pm.allR ub) := by
  obtain ⟨La, Lb, pa, pb, ca, cb, Fa, Fb, hf, h1, h2, h3⟩ := h
  exact hf.ls
theorem Sim.doA (h : Sim w0 w m n R1 R2 B1 B2 O ua ub ta tb) (s : Qm.St) (x : Opp) (q : Option Addr) (c : Nat) (hs : Sz x) (hp : Pa w x q c) :
    Calls Try.prog 12 #[.pointer (some ⟨m.P, 0, none⟩), .agg #[.int .i64 s.1, .int .i64 s.2], .agg (opA x q c)] w fun e w' => e = .returned (.int .i64 (Pm.doE ⟨s, x⟩)) ∧ Sim w0 w' m n R1 R2 B1 B2 O (ua ++ [⟨s, x⟩]) ub ta tb ∧ Turns (fun k => w0.heap.size ≤ k ∧ ¬ O k) w w' := by
  obtain ⟨La, Lb, pa, pb, ca, cb, Fa, Fb, hf, h1, h2, h3⟩ := h
  refine (do_any s x q c w hf.lr hs hp).mono ?_
  intro e w' hd
  have h4 := hf.doA hd
  refine ⟨hd.1, ⟨La, Lb, pa, pb, ca, cb, Fa, Fb, by rw [Pm.allR_snoc]; exact h4, h1, h2, fun k hk => ⟨Nat.lt_of_lt_of_le (h3 k hk).1 hd.2.2.size, (h3 k hk).2⟩⟩, hd.2.2.mono fun k _ hk => ?_⟩
  rcases hk with hk | hk | hk
  · exact ⟨by rw [hk]; exact hf.gm.2.1, fun ho => (h3 _ ho).2.2.1.2.1 hk⟩
  · exact ⟨by rw [hk]; exact hf.gm.2.2.1, fun ho => (h3 _ ho).2.2.1.2.2.1 hk⟩
  · exact ⟨by rw [hk]; exact hf.gm.2.2.2, fun ho => (h3 _ ho).2.2.1.2.2.2 hk⟩
theorem Sim.doB (h : Sim w0 w m n R1 R2 B1 B2 O ua ub ta tb) (s : Qm.St) (x : Opp) (q : Option Addr) (c : Nat) (hs : Sz x) (hp : Pa w x q c) :
    Calls Try.prog 12 #[.pointer (some ⟨n.P, 0, none⟩), .agg #[.int .i64 s.1, .int .i64 s.2], .agg (opA x q c)] w fun e w' => e = .returned (.int .i64 (Pm.doE ⟨s, x⟩)) ∧ Sim w0 w' m n R1 R2 B1 B2 O ua (ub ++ [⟨s, x⟩]) ta tb ∧ Turns (fun k => w0.heap.size ≤ k ∧ ¬ O k) w w' := by
  obtain ⟨La, Lb, pa, pb, ca, cb, Fa, Fb, hf, h1, h2, h3⟩ := h
  refine (do_any s x q c w hf.ls hs hp).mono ?_
  intro e w' hd
  have h4 := hf.doB hd
  refine ⟨hd.1, ⟨La, Lb, pa, pb, ca, cb, Fa, Fb, by rw [Pm.allR_snoc]; exact h4, h1, h2, fun k hk => ⟨Nat.lt_of_lt_of_le (h3 k hk).1 hd.2.2.size, (h3 k hk).2⟩⟩, hd.2.2.mono fun k _ hk => ?_⟩
  rcases hk with hk | hk | hk
  · exact ⟨by rw [hk]; exact hf.gn.2.1, fun ho => (h3 _ ho).2.2.2.1.2.1 hk⟩
  · exact ⟨by rw [hk]; exact hf.gn.2.2.1, fun ho => (h3 _ ho).2.2.2.1.2.2.1 hk⟩
  · exact ⟨by rw [hk]; exact hf.gn.2.2.2, fun ho => (h3 _ ho).2.2.2.1.2.2.2 hk⟩
theorem Sim.rdoA (h : Sim w0 w m n R1 R2 B1 B2 O ua ub ta tb) (hz : SmT ta) (s : Qm.St) (x : Opp) (q : Option Addr) (c : Nat) (hs : Sz x) (hl : x.path.length ≤ 200) (hp : Pa w x q c) :
    Calls Try.prog 13 #[.pointer (some ⟨R1, 0, none⟩), .agg #[.int .i64 s.1, .int .i64 s.2], .agg (opA x q c)] w fun e w' => e = .returned (.int .i64 (Pm.doE ⟨s, x⟩)) ∧ Sim w0 w' m n R1 R2 B1 B2 O ua ub (ta ++ [⟨s, x⟩]) tb ∧ Turns (fun k => w0.heap.size ≤ k ∧ ¬ O k) w w' := by
  obtain ⟨La, Lb, pa, pb, ca, cb, Fa, Fb, hf, h1, h2, h3⟩ := h
  refine (rdo_any s x q c w hf.ra hs hp (hz.l h1).len hl hf.b1).mono ?_
  intro e w' hd
  obtain ⟨La', pa', ca', Fa', g0, g1, -, -, g2⟩ := hf.refA hd
  obtain ⟨d0, -, -, -, -, -, -, -, ht⟩ := hd
  refine ⟨d0, ⟨La', Lb, pa', pb, ca', cb, Fa', Fb, g0, ?_, h2, fun k hk => ?_⟩, ht.mono fun k _ hk => ⟨(hf.fa k hk).1, fun ho => (h3 k ho).2.2.2.2.1 hk⟩⟩
  · rw [g1, filter_snoc, h1]
  · have h9 := h3 k hk
    exact ⟨Nat.lt_of_lt_of_le h9.1 ht.size, h9.2.1, h9.2.2.1, h9.2.2.2.1, fun g => by
      rcases g2 k g with g | g
      · exact h9.2.2.2.2.1 g
      · have := h9.1; omega, h9.2.2.2.2.2⟩
theorem Sim.rdoB (h : Sim w0 w m n R1 R2 B1 B2 O ua ub ta tb) (hz : SmT tb) (s : Qm.St) (x : Opp) (q : Option Addr) (c : Nat) (hs : Sz x) (hl : x.path.length ≤ 200) (hp : Pa w x q c) :
    Calls Try.prog 13 #[.pointer (some ⟨R2, 0, none⟩), .agg #[.int .i64 s.1, .int .i64 s.2], .agg (opA x q c)] w fun e w' => e = .returned (.int .i64 (Pm.doE ⟨s, x⟩)) ∧ Sim w0 w' m n R1 R2 B1 B2 O ua ub ta (tb ++ [⟨s, x⟩]) ∧ Turns (fun k => w0.heap.size ≤ k ∧ ¬ O k) w w' := by
  obtain ⟨La, Lb, pa, pb, ca, cb, Fa, Fb, hf, h1, h2, h3⟩ := h
  refine (rdo_any s x q c w hf.rb hs hp (hz.l h2).len hl hf.b2).mono ?_
  intro e w' hd
  obtain ⟨Lb', pb', cb', Fb', g0, g1, -, -, g2⟩ := hf.refB hd
  obtain ⟨d0, -, -, -, -, -, -, -, ht⟩ := hd
  refine ⟨d0, ⟨La, Lb', pa, pb', ca, cb', Fa, Fb', g0, h1, ?_, fun k hk => ?_⟩, ht.mono fun k _ hk => ⟨(hf.fb k hk).1, fun ho => (h3 k ho).2.2.2.2.2 hk⟩⟩
  · rw [g1, filter_snoc, h2]
  · have h9 := h3 k hk
    exact ⟨Nat.lt_of_lt_of_le h9.1 ht.size, h9.2.1, h9.2.2.1, h9.2.2.2.1, h9.2.2.2.2.1, fun g => by
      rcases g2 k g with g | g
      · exact h9.2.2.2.2.2 g
      · have := h9.1; omega⟩
theorem Sim.rvalue (h : Sim w0 w m n R1 R2 B1 B2 O ua ub ta tb) (hz : SmT ta) (s : Qm.St) (p : Int) :
    Calls Try.prog 17 #[.pointer (some ⟨R1, 0, none⟩), .agg #[.int .i64 s.1, .int .i64 s.2], .int .i64 p] w fun e w' => e = .returned (.agg (vlA ((Pm.allR ta).v (Pm.nameV s p)).2)) ∧ Below w.heap.size w w' := by
  obtain ⟨La, Lb, pa, pb, ca, cb, Fa, Fb, hf, h1, h2, h3⟩ := h
  have := rvalue_any s p w hf.ra (hz.l h1)
  rwa [h1, Pm.ask_v] at this
theorem Sim.rmarked (h : Sim w0 w m n R1 R2 B1 B2 O ua ub ta tb) (hz : SmT ta) (s : Qm.St) :
    Calls Try.prog 19 #[.pointer (some ⟨R1, 0, none⟩), .agg #[.int .i64 s.1, .int .i64 s.2]] w fun e w' => e = .returned (.bool ((Pm.allR ta).m (Pm.nameM s)).2) ∧ Below w.heap.size w w' := by
  obtain ⟨La, Lb, pa, pb, ca, cb, Fa, Fb, hf, h1, h2, h3⟩ := h
  have := rmarked_any s w hf.ra (hz.l h1)
  rwa [h1, Pm.ask_m] at this
theorem Sim.rflag (h : Sim w0 w m n R1 R2 B1 B2 O ua ub ta tb) (hz : SmT ta) (s : Qm.St) (p : Int) :
    Calls Try.prog 21 #[.pointer (some ⟨R1, 0, none⟩), .agg #[.int .i64 s.1, .int .i64 s.2], .int .i64 p] w fun e w' => e = .returned (.bool (decide (((Pm.allR ta).v (Pm.nameV s p)).2 = (4, 1, ⟨#[]⟩)))) ∧ Below w.heap.size w w' := by
  obtain ⟨La, Lb, pa, pb, ca, cb, Fa, Fb, hf, h1, h2, h3⟩ := h
  have := rflag_any s p w hf.ra (hz.l h1)
  rwa [h1, Pm.ask_v] at this
theorem over_bool (t : List Pm.Wr) (nm : Pm.Nm) : (!decide (((Pm.allR t).o nm).2 = Pm.z0)) = (((Pm.allR t).o nm).2.1 != 0) := by
  by_cases h : ((Pm.allR t).o nm).2.1 = 0
  · have h1 := Pm.o_none t nm h
    rw [h1]
    rfl
  · have h1 : ((Pm.allR t).o nm).2 ≠ Pm.z0 := fun e => h (by rw [e]; rfl)
    simp [h, h1]
theorem Sim.rover (h : Sim w0 w m n R1 R2 B1 B2 O ua ub ta tb) (hz : SmT ta) (s : Qm.St) (q : Option Addr) (l : List Qm.St) (c : Nat) (p : Int) (hq : Rd w q (stCells l)) (hn : q = none → c = 0) (hc : l.length ≤ c) :
    Calls Try.prog 15 #[.pointer (some ⟨R1, 0, none⟩), .agg #[.int .i64 s.1, .int .i64 s.2], .slice q l.length c, .int .i64 p] w fun e w' => e = .returned (.tuple #[.agg (vlA ((Pm.allR ta).o (Pm.nameO s l p)).2), .bool (((Pm.allR ta).o (Pm.nameO s l p)).2.1 != 0)]) ∧ Below w.heap.size w w' := by
  obtain ⟨La, Lb, pa, pb, ca, cb, Fa, Fb, hf, h1, h2, h3⟩ := h
  have := rover_any s q l c p w hf.ra (hz.l h1) hq hn hc
  rwa [h1, Pm.ask_o, over_bool] at this
theorem Sim.rsame (h : Sim w0 w m n R1 R2 B1 B2 O ua ub ta tb) (hza : SmT ta) (hzb : SmT tb) :
    Calls Try.prog 23 #[.pointer (some ⟨R1, 0, none⟩), .pointer (some ⟨R2, 0, none⟩)] w fun e w' => ∃ b, e = .returned (.bool b) ∧ (b = true ↔ Pm.Same (Pm.allR ta) (Pm.allR tb)) ∧ Below w.heap.size w w' := by
  obtain ⟨La, Lb, pa, pb, ca, cb, Fa, Fb, hf, h1, h2, h3⟩ := h
  have := rsame2_any w hf.ra hf.rb (hza.l h1) (hzb.l h2)
  rwa [h1, h2, Pm.same_iff] at this
/-- the beginning -/
theorem Sim.start {wa : World} (hr : Lay w m.P m.a m.b m.c Pm.Rs.zero) (hs : Lay w n.P n.a n.b n.c Pm.Rs.zero) (h1 : AgAt w R1 #[.slice none 0 0]) (h2 : AgAt w R2 #[.slice none 0 0]) (hb : Below w0.heap.size w0 w)
    (hm : m.all (w0.heap.size ≤ ·)) (hml : m.all (· < wa.heap.size)) (hn : n.all (wa.heap.size ≤ ·)) (hw : w0.heap.size ≤ wa.heap.size) (hr1 : w0.heap.size ≤ R1 ∧ m.all (R1 ≠ ·) ∧ n.all (R1 ≠ ·)) (hr2 : w0.heap.size ≤ R2 ∧ m.all (R2 ≠ ·) ∧ n.all (R2 ≠ ·)) (h12 : R1 ≠ R2) :
    Sim w0 w m n R1 R2 0 0 (fun _ => False) [] [] [] [] := by
  have hown : w.ownsRow 0 40 14 (.slice none ([] : List WrE).length 0) ([] : List WrE).length (([] : List WrE).flatMap ceW) := World.ownsRow_nil _ _ _ _
  have href : ∀ R, AgAt w R #[.slice none 0 0] → RefL w R [] none 0 0 (fun k => k = R) := fun R h => ⟨h, hown, fun e he => (by cases he), rfl, fun k hk => (by cases hk), fun e he => (by cases he), fun k hk => (by rw [hk]; exact h.lt)⟩
  exact ⟨[], [], none, none, 0, 0, _, _, ⟨hr, hs, href _ h1, href _ h2, hb, hm, ⟨Nat.le_trans hw hn.1, Nat.le_trans hw hn.2.1, Nat.le_trans hw hn.2.2.1, Nat.le_trans hw hn.2.2.2⟩, fun k hk => by subst hk; exact ⟨hr1.1, hr1.2.1, hr1.2.2, h12⟩, fun k hk => by subst hk; exact hr2, ⟨_, hml, hn⟩, Nat.zero_le _, Nat.zero_le _⟩, rfl, rfl, fun k hk => hk.elim⟩
end
end Go.Proofs.Ytcenmkcencdlcaa
