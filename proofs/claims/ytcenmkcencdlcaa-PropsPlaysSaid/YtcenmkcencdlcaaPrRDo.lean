/-
  THE DOCUMENT's Do.
  No conditions but sizes.
-/
import Derived.Test.YtcenmkcencdlcaaPrRLook
import Derived.Test.YtcenmkcencdlcaaRoRight
import Derived.Test.YtcenmkcencdlcaaGP
import Derived.Test.YtcenmkcencdlcaaRgLast
namespace Go.Proofs.Ytcenmkcencdlcaa
open Go.RowKit

theorem stK : RK 32 23 2 16 (fun x : Qm.St => [Value.int .i64 x.1, .int .i64 x.2]) where
  und := Try.underlying23
  elem := by kernel_rfl
  size := fun _ => by kernel_rfl
  info := by
    have h : (Try.prog.info? 32).map (fun i => (i.zero, i.size, i.bytes)) = some (some (.agg #[.int .i64 0, .int .i64 0]), 2, 16) := by kernel_rfl
    cases hi : Try.prog.info? 32 with
    | none => rw [hi] at h; cases h
    | some i =>
      rw [hi] at h
      simp only [Option.map_some, Option.some.injEq, Prod.mk.injEq] at h
      exact ⟨i, _, rfl, h.1, h.2.1, h.2.2, rfl⟩
  row := ⟨_, Try.underlying32⟩
  len := fun _ => rfl
  one := fun x u hu => by
    simp only [List.mem_cons, List.not_mem_nil, or_false] at hu
    rcases hu with rfl | rfl <;> rfl
  pos := by decide
  small := by decide
theorem RK.appendG {α : Type} {E SE : TypeId} {k by_ : Nat} {ce : α → List Value} (V : RK E SE k by_ ce) {w : World} {ops : Array Oper} {o : Oper} {a : Act} {K : Act → World → Prop} {Q : Exit → Act → World → Prop} {X : Prop} (hgd : o.guard = none) (s x : Operand)
    (ho : o.op = .call { callee := .builtin .append, args := #[s, x], argTypes := #[SE, SE] })
    (base : Nat) (xs ys zs : List α) (hz : xs ++ ys = zs) {p : Option Addr} {c : Nat} (hs : a.eval s = .slice p xs.length c) (hown : w.ownsRow base E k (.slice p xs.length c) xs.length (xs.flatMap ce))
    (q : Option Addr) (d : Nat) (hx : a.eval x = .slice q ys.length d) (hrd : Rd w q (ys.flatMap ce)) (hpn : q = none → d = 0) (hsz : xs.length + ys.length ≤ 10000) (hbase : base ≤ w.heap.size)
    (h : ∀ p' c' w', w'.ownsRow base E k (.slice p' zs.length c') zs.length (zs.flatMap ce) → w.grownBy w' (Value.slice p xs.length c).ownBlock → (∀ g, (Value.slice p' zs.length c').ownBlock = some g → (Value.slice p xs.length c).ownBlock = some g ∨ w.heap.size ≤ g) → K (a.put o.dst (.slice p' zs.length c')) w') :
    if Region.wanted o (yielded ops a.tmps) = true then Oper.wp Try.prog o a w K Q else X := by
  obtain ⟨i0, z, hi, hz0, hz1, hz2, hz3⟩ := V.info
  refine step_append_sb hgd s x SE ho base E i0 z k by_ V.und hi hz0 hz1 V.pos hz2 V.small hz3 _ xs.length (xs.flatMap ce) hs hown q ys.length d (ys.flatMap ce) hx (V.length ys) hrd hpn (V.ones ys) hsz hbase ?_
  intro p' c' w' h1 h2 h3
  have e : xs.length + ys.length = zs.length := by rw [← hz, List.length_append]
  rw [← List.flatMap_append, hz, e] at h1
  rw [e] at h3
  have := h p' c' w' h1 h2 h3
  rwa [e]
/-- what the document's Do leaves -/
def RDone (R B : Nat) (L : List WrE) (F : Nat → Prop) (y : Pm.Wr) (w : World) (e : Ending) (w' : World) : Prop :=
  e = .returned (.int .i64 (Pm.doE y)) ∧ ∃ L' p' c', RefL w' R L' p' c' B (fun k => F k ∨ (w.heap.size ≤ k ∧ k < w'.heap.size)) ∧ pl L' = (if Pm.kept y = true then pl L ++ [y] else pl L) ∧ (∀ e ∈ L', e ∈ L ∨ e.w = y) ∧ L'.length ≤ L.length + 1 ∧ Turns F w w'
section
variable {w w' w8 w9 : World} {R B : Nat} {L : List WrE} {p : Option Addr} {c : Nat} {F G : Nat → Prop}
theorem RefL.more (h : RefL w R L p c B F) (hm : ∀ k, F k → G k) (hl : ∀ k, G k → k < w.heap.size) : RefL w R L p c B G :=
  ⟨h.box, h.own, h.pa, hm _ h.fR, fun k hk => ⟨hm _ (h.fo k hk).1, (h.fo k hk).2⟩, fun e he h0 a ha => ⟨hm _ (h.fp e he h0 a ha).1, (h.fp e he h0 a ha).2⟩, hl⟩
theorem RDone.no (h : RefL w R L p c B F) (hb : Below w.heap.size w w') {y : Pm.Wr} (hk : Pm.kept y = false) : RDone R B L F y w (.returned (.int .i64 (Pm.doE y))) w' :=
  ⟨rfl, L, p, c, (h.kept hb).more (fun _ h => Or.inl h) (fun k hk => hk.elim (fun h1 => Nat.lt_of_lt_of_le (h.lt k h1) hb.size) (·.2)), by rw [hk]; simp, fun e he => Or.inl he, by omega, Turns.of_below hb⟩
theorem RefL.grow (h : RefL w8 R L p c B F) (hF : ∀ k, F k → k < w.heap.size) (hb : Below w.heap.size w w8) (e : WrE) (hpe : Pa w8 e.w.x e.q e.c) (hq : 0 < e.w.x.path.length → ∀ a, e.q = some a → w.heap.size ≤ a.block ∧ a.block < w8.heap.size)
    {p9 : Option Addr} {c9 : Nat} (ho : w9.ownsRow B 40 14 (.slice p9 (L ++ [e]).length c9) (L ++ [e]).length ((L ++ [e]).flatMap ceW)) (hg : w8.grownBy w9 (Value.slice p L.length c).ownBlock)
    (h3 : ∀ g, (Value.slice p9 (L ++ [e]).length c9).ownBlock = some g → (Value.slice p L.length c).ownBlock = some g ∨ w8.heap.size ≤ g) :
    RefL (w9.setCell ⟨R, 0, none⟩ (.slice p9 (L ++ [e]).length c9)) R (L ++ [e]) p9 c9 B (fun k => F k ∨ (w.heap.size ≤ k ∧ k < (w9.setCell ⟨R, 0, none⟩ (.slice p9 (L ++ [e]).length c9)).heap.size)) ∧ Turns F w (w9.setCell ⟨R, 0, none⟩ (.slice p9 (L ++ [e]).length c9)) := by
  have hRw : R < w.heap.size := hF _ h.fR
  have hs8 := hb.size
  have hs9 := hg.size
  have tg := Turns.of_grown hg
  have ts := set_turns R w9 0 (.slice p9 (L ++ [e]).length c9)
  have hown9 : ∀ k, (Value.slice p9 (L ++ [e]).length c9).ownBlock = some k → k < w9.heap.size := fun k hk => (World.ownsRow.lt ho k hk).2
  have hnR : ∀ k, (Value.slice p9 (L ++ [e]).length c9).ownBlock = some k → k ≠ R := fun k hk => by
    rcases h3 k hk with h4 | h4
    · exact (h.fo k h4).2
    · omega
  have hsz : (w9.setCell ⟨R, 0, none⟩ (.slice p9 (L ++ [e]).length c9)).heap.size = w9.heap.size := by simp
  have hbox9 : AgAt w9 R #[.slice p L.length c] := h.box.turn tg (fun hh => (h.fo R hh).2 rfl)
  have key : ∀ {x : Opp} {q : Option Addr} {cc : Nat}, Pa w8 x q cc → (0 < x.path.length → ∀ a, q = some a → a.block ≠ R ∧ (Value.slice p L.length c).ownBlock ≠ some a.block) → Pa (w9.setCell ⟨R, 0, none⟩ (.slice p9 (L ++ [e]).length c9)) x q cc := fun hp hd =>
    (hp.turn tg fun h0 a ha => (hd h0 a ha).2).turn ts fun h0 a ha => (hd h0 a ha).1
  refine ⟨⟨hbox9.put 0 _, ts.own ho (fun g hgg => hnR g hgg), fun y hy => ?_, Or.inl h.fR, fun k hk => ⟨?_, hnR k hk⟩, fun y hy h0 a ha => ?_, fun k hk => ?_⟩, ?_⟩
  · rcases List.mem_append.1 hy with hy | hy
    · exact key (h.pa y hy) fun h0 a ha => (h.fp y hy h0 a ha).2
    · rw [List.mem_singleton.1 hy]
      refine key hpe fun h0 a ha => ⟨by have := (hq h0 a ha).1; omega, fun hh => ?_⟩
      have h4 := hF _ (h.fo _ hh).1
      have := (hq h0 a ha).1
      omega
  · rcases h3 k hk with h4 | h4
    · exact Or.inl (h.fo k h4).1
    · exact Or.inr ⟨by omega, by rw [hsz]; exact hown9 k hk⟩
  · rcases List.mem_append.1 hy with hy | hy
    · have h5 := h.fp y hy h0 a ha
      refine ⟨Or.inl h5.1, h5.2.1, fun hh => ?_⟩
      rcases h3 _ hh with h4 | h4
      · exact h5.2.2 h4
      · have := hF _ h5.1; omega
    · rw [List.mem_singleton.1 hy] at h0 ha
      have h5 := hq h0 a ha
      refine ⟨Or.inr ⟨h5.1, by rw [hsz]; omega⟩, by omega, fun hh => ?_⟩
      rcases h3 _ hh with h4 | h4
      · have := hF _ (h.fo _ h4).1; omega
      · omega
  · rcases hk with hk | hk
    · have := hF k hk; rw [hsz]; omega
    · exact hk.2
  · have t1 : Turns F w8 w9 := tg.mono fun k _ hk => (h.fo k hk).1
    have t2 : Turns F w9 (w9.setCell ⟨R, 0, none⟩ (.slice p9 (L ++ [e]).length c9)) := ts.mono fun k _ hk => by rw [hk]; exact h.fR
    exact (Turns.of_below hb).trans ((t1.trans (t2.mono fun _ _ h => Or.inl h)).mono fun _ _ h => Or.inl h)
end
theorem build_wr (s1 s2 : Int) (x : Opp) (q : Option Addr) (c : Nat) (W : World) : (Instr.build 40 #[(0, .agg #[.int .i64 s1, .int .i64 s2]), (1, .agg (opA x q c))]).run Try.prog W = .ok (.agg (wrA ⟨⟨(s1, s2), x⟩, q, c⟩)) W := by kernel_rfl
theorem buildS_wr (e : WrE) (w : World) : (Instr.buildSlice 22 1 #[(0, .agg (wrA e))]).run Try.prog w = .ok (.slice (some ⟨w.heap.size, 0, none⟩) 1 1) (w.alloc (.cells (wrA e) 40)) := by kernel_rfl
theorem exec_build2 {c : Act} {o : Oper} {x y : Operand} {T : TypeId} (ho : o.op = .build T #[(0, x), (1, y)]) {A B C : Value} (hx : c.eval x = A) (hy : c.eval y = B)
    (hr : ∀ W, (Instr.build T #[(0, A), (1, B)]).run Try.prog W = .ok C W) (w : World) : (execOp c.eval o).run Try.prog w = .ok (.value C) w := by
  unfold execOp
  simp only [ho, Sem.run_bind, Sem.run_pure, Result.andThen_ok, List.map_toArray, List.map_cons, List.map_nil, hx, hy, hr]
theorem wpList_store_path {ops : Array Oper} {rest : List Oper} {o : Oper} {a : Act} {w : World} {Q : Exit → Act → World → Prop} (hgd : o.guard = none) (x y : Operand) (ho : o.op = .store 23 x y) (b : Nat) (hx : a.eval x = .pointer (some ⟨b, 6, none⟩)) {z : Opp} {q q' : Option Addr} {c c' : Nat} (hy : a.eval y = .slice q' z.path.length c')
    (hv : OpAt w b z q c)
    (h : ∀ w' : World, OpAt w' b z q' c' → (∀ k, k ≠ b → w'.heap[k]? = w.heap[k]?) → w'.heap.size = w.heap.size → (∀ B w0, Below B w0 w → B ≤ b → Below B w0 w') → wpList Try.prog ops Q rest (a.put o.dst undef) w') : wpList Try.prog ops Q (o :: rest) a w := by
  have hc : w.cell? ⟨b, 6, none⟩ = some (.slice q z.path.length c) := by rw [hv.cell]; rfl
  have hf : w.frozen? ⟨b, 6, none⟩ = false := hv.free 6
  refine wpList_plain hgd fun K hK => ?_
  have hk : K (a.put o.dst undef) (w.setCell ⟨b, 6, none⟩ (.slice q' z.path.length c')) := by
    refine hK _ _ (h _ (hv.setPath z.path q' c') (fun k hk => heap_setCell_other _ _ k _ hk) (by simp) (fun B w0 hb hB => ?_))
    exact hb.trans ⟨rfl, rfl, rfl, by simp, fun k hk => heap_setCell_other _ _ k _ (by show k ≠ b; omega)⟩
  unfold Oper.wp execOp
  simp only [ho, hx, hy]
  go_simp
  exact hk

set_option maxRecDepth 100000 in
set_option maxHeartbeats 8000000 in
theorem rdo0_any {R B : Nat} {L : List WrE} {p : Option Addr} {cp : Nat} {F : Nat → Prop} (s : Qm.St) (x : Opp) (q : Option Addr) (c : Nat) (w : World) (h : RefL w R L p cp B F) (hs : Sz x) (ha : Pa w x q c) (hn : okNode s.1 s.2 = false) :
    Calls Try.prog 13 #[.pointer (some ⟨R, 0, none⟩), .agg #[.int .i64 s.1, .int .i64 s.2], .agg (opA x q c)] w (RDone R B L F ⟨s, x⟩ w) := by
  obtain ⟨s1, s2⟩ := s
  have HL := Lib.hid h
  have HSZ := Lib.hid hs
  have HS0 := Lib.hid ((AgAt.new w #[.int .i64 s1, .int .i64 s2] 32).kept ((Below.refl _ _).alloc (Nat.le_refl _) (.cells (opA x q c) 38)))
  have HO := Lib.hid (show AgAt ((w.alloc (.cells #[.int .i64 s1, .int .i64 s2] 32)).alloc (.cells (opA x q c) 38)) (w.heap.size + 1) (opA x q c) from by
    have := AgAt.new (w.alloc (.cells #[.int .i64 s1, .int .i64 s2] 32)) (opA x q c) 38
    rwa [World.size_alloc] at this)
  have HB := Lib.hid (((Below.refl w.heap.size w).alloc (Nat.le_refl _) (.cells #[.int .i64 s1, .int .i64 s2] 32)).alloc (by simp) (.cells (opA x q c) 38))
  have HP := Lib.hid (ha.kept HB.out)
  have HN := Lib.hid hn
  have HDE := Lib.hid (show Pm.doE ⟨(s1, s2), x⟩ = 1 from by
    unfold Pm.doE Pm.okW
    rw [show okNode s1 s2 = false from hn]
    rfl)
  clear h hs ha hn
  go_enter Try.func13, Try.ntmps13
  go_wp2_with (refine wpList_load_ag stT (by kernel_rfl) _ rfl _ rfl (A := #[.int .i64 s1, .int .i64 s2]) rfl HS0.out ?_)
  refine (rnode_any s1 s2 _).mono ?_
  rw [HN.out]
  rintro e w2 ⟨rfl, hb2⟩
  replace HP := Lib.hid (HP.out.kept hb2)
  replace HO := Lib.hid (HO.out.kept hb2)
  replace HS0 := Lib.hid (HS0.out.kept hb2)
  replace HB := Lib.hid (HB.out.trans (hb2.mono HB.out.size))
  clear hb2
  have HE := Lib.hid (show RDone R B L F ⟨(s1, s2), x⟩ w (.returned (.int .i64 1)) w2 from by
    have h1 := RDone.no HL.out HB.out (y := ⟨(s1, s2), x⟩) (by unfold Pm.kept; rw [HDE.out]; rfl)
    rw [HDE.out] at h1
    exact h1)
  clear HL HO HS0 HB HP
  go_wp2
  go_ret
  exact HE.out

set_option maxRecDepth 100000 in
set_option maxHeartbeats 8000000 in
theorem rdo1_any {R B : Nat} {L : List WrE} {p : Option Addr} {cp : Nat} {F : Nat → Prop} (s : Qm.St) (x : Opp) (q : Option Addr) (c : Nat) (w : World) (h : RefL w R L p cp B F) (hs : Sz x) (ha : Pa w x q c) (hn : okNode s.1 s.2 = true) (hr : rightO x = false) :
    Calls Try.prog 13 #[.pointer (some ⟨R, 0, none⟩), .agg #[.int .i64 s.1, .int .i64 s.2], .agg (opA x q c)] w (RDone R B L F ⟨s, x⟩ w) := by
  obtain ⟨s1, s2⟩ := s
  have HL := Lib.hid h
  have HSZ := Lib.hid hs
  have HS0 := Lib.hid ((AgAt.new w #[.int .i64 s1, .int .i64 s2] 32).kept ((Below.refl _ _).alloc (Nat.le_refl _) (.cells (opA x q c) 38)))
  have HO := Lib.hid (show AgAt ((w.alloc (.cells #[.int .i64 s1, .int .i64 s2] 32)).alloc (.cells (opA x q c) 38)) (w.heap.size + 1) (opA x q c) from by
    have := AgAt.new (w.alloc (.cells #[.int .i64 s1, .int .i64 s2] 32)) (opA x q c) 38
    rwa [World.size_alloc] at this)
  have HB := Lib.hid (((Below.refl w.heap.size w).alloc (Nat.le_refl _) (.cells #[.int .i64 s1, .int .i64 s2] 32)).alloc (by simp) (.cells (opA x q c) 38))
  have HP := Lib.hid (ha.kept HB.out)
  have HN := Lib.hid hn
  have HRT := Lib.hid hr
  have HDE := Lib.hid (show Pm.doE ⟨(s1, s2), x⟩ = 1 from by
    unfold Pm.doE Pm.okW
    rw [show okNode s1 s2 = true from hn, hr]
    rfl)
  clear h hs ha hn hr
  go_enter Try.func13, Try.ntmps13
  go_wp2_with (refine wpList_load_ag stT (by kernel_rfl) _ rfl _ rfl (A := #[.int .i64 s1, .int .i64 s2]) rfl HS0.out ?_)
  refine (rnode_any s1 s2 _).mono ?_
  rw [HN.out]
  rintro e w2 ⟨rfl, hb2⟩
  replace HP := Lib.hid (HP.out.kept hb2)
  replace HO := Lib.hid (HO.out.kept hb2)
  replace HS0 := Lib.hid (HS0.out.kept hb2)
  replace HB := Lib.hid (HB.out.trans (hb2.mono HB.out.size))
  clear hb2
  go_wp2_with (refine wpList_load_opG otR (by kernel_rfl) _ rfl _ rfl x q c HO.out ?_)
  refine (rright_any x q c _ HSZ.out HP.out).mono ?_
  rw [HRT.out]
  rintro e w3 ⟨rfl, hb3⟩
  replace HP := Lib.hid (HP.out.kept hb3)
  replace HO := Lib.hid (HO.out.kept hb3)
  replace HS0 := Lib.hid (HS0.out.kept hb3)
  replace HB := Lib.hid (HB.out.trans (hb3.mono HB.out.size))
  clear hb3
  have HE := Lib.hid (show RDone R B L F ⟨(s1, s2), x⟩ w (.returned (.int .i64 1)) w3 from by
    have h1 := RDone.no HL.out HB.out (y := ⟨(s1, s2), x⟩) (by unfold Pm.kept; rw [HDE.out]; rfl)
    rw [HDE.out] at h1
    exact h1)
  clear HL HO HS0 HB HP
  go_wp2
  go_ret
  exact HE.out

set_option maxRecDepth 100000 in
set_option maxHeartbeats 8000000 in
theorem rdoK_any {R B : Nat} {L : List WrE} {p : Option Addr} {cp : Nat} {F : Nat → Prop} (s : Qm.St) (x : Opp) (q : Option Addr) (c : Nat) (w : World) (h : RefL w R L p cp B F) (hs : Sz x) (ha : Pa w x q c) (hn : okNode s.1 s.2 = true) (hr : rightO x = true) (k3 : x.k ≠ 3) (k4 : x.k ≠ 4) (k6 : x.k ≠ 6) :
    Calls Try.prog 13 #[.pointer (some ⟨R, 0, none⟩), .agg #[.int .i64 s.1, .int .i64 s.2], .agg (opA x q c)] w (RDone R B L F ⟨s, x⟩ w) := by
  obtain ⟨s1, s2⟩ := s
  have HL := Lib.hid h
  have HSZ := Lib.hid hs
  have HS0 := Lib.hid ((AgAt.new w #[.int .i64 s1, .int .i64 s2] 32).kept ((Below.refl _ _).alloc (Nat.le_refl _) (.cells (opA x q c) 38)))
  have HO := Lib.hid (show AgAt ((w.alloc (.cells #[.int .i64 s1, .int .i64 s2] 32)).alloc (.cells (opA x q c) 38)) (w.heap.size + 1) (opA x q c) from by
    have := AgAt.new (w.alloc (.cells #[.int .i64 s1, .int .i64 s2] 32)) (opA x q c) 38
    rwa [World.size_alloc] at this)
  have HB := Lib.hid (((Below.refl w.heap.size w).alloc (Nat.le_refl _) (.cells #[.int .i64 s1, .int .i64 s2] 32)).alloc (by simp) (.cells (opA x q c) 38))
  have HP := Lib.hid (ha.kept HB.out)
  have HN := Lib.hid hn
  have HRT := Lib.hid hr
  have e3 : (x.k != 3) = true := by simpa using k3
  have e4 : (x.k != 4) = true := by simpa using k4
  have e6 : (x.k != 6) = true := by simpa using k6
  have HDE := Lib.hid (show Pm.doE ⟨(s1, s2), x⟩ = 42 from by
    unfold Pm.doE Pm.okW
    rw [show okNode s1 s2 = true from hn, hr, if_pos (show (true && true) = true from rfl), if_neg (by rintro (h | h | h) <;> contradiction)])
  clear h hs ha hn hr
  go_enter Try.func13, Try.ntmps13
  go_wp2_with (refine wpList_load_ag stT (by kernel_rfl) _ rfl _ rfl (A := #[.int .i64 s1, .int .i64 s2]) rfl HS0.out ?_)
  refine (rnode_any s1 s2 _).mono ?_
  rw [HN.out]
  rintro e w2 ⟨rfl, hb2⟩
  replace HP := Lib.hid (HP.out.kept hb2)
  replace HO := Lib.hid (HO.out.kept hb2)
  replace HS0 := Lib.hid (HS0.out.kept hb2)
  replace HB := Lib.hid (HB.out.trans (hb2.mono HB.out.size))
  clear hb2
  go_wp2_with (refine wpList_load_opG otR (by kernel_rfl) _ rfl _ rfl x q c HO.out ?_)
  refine (rright_any x q c _ HSZ.out HP.out).mono ?_
  rw [HRT.out]
  rintro e w3 ⟨rfl, hb3⟩
  replace HP := Lib.hid (HP.out.kept hb3)
  replace HO := Lib.hid (HO.out.kept hb3)
  replace HS0 := Lib.hid (HS0.out.kept hb3)
  replace HB := Lib.hid (HB.out.trans (hb3.mono HB.out.size))
  clear hb3
  have y0 : w3.cell? ⟨w.heap.size + 1, 0, none⟩ = some (.int .i64 x.k) := HO.out.cell 0
  have HE := Lib.hid (show RDone R B L F ⟨(s1, s2), x⟩ w (.returned (.int .i64 42)) w3 from by
    have h1 := RDone.no HL.out HB.out (y := ⟨(s1, s2), x⟩) (by unfold Pm.kept; rw [HDE.out]; rfl)
    rw [HDE.out] at h1
    exact h1)
  clear HL HO HS0 HB HP
  go_wp2
  go_ret
  exact HE.out

set_option maxRecDepth 100000 in
set_option maxHeartbeats 8000000 in
theorem rdoY_any {R B : Nat} {L : List WrE} {p : Option Addr} {cp : Nat} {F : Nat → Prop} (s : Qm.St) (x : Opp) (q : Option Addr) (c : Nat) (w : World) (h : RefL w R L p cp B F) (hs : Sz x) (ha : Pa w x q c) (hn : okNode s.1 s.2 = true) (hr : rightO x = true) (hk : x.k = 3 ∨ x.k = 4 ∨ x.k = 6) (hl : L.length ≤ 200) (hpl : x.path.length ≤ 200) (hB : B ≤ w.heap.size) :
    Calls Try.prog 13 #[.pointer (some ⟨R, 0, none⟩), .agg #[.int .i64 s.1, .int .i64 s.2], .agg (opA x q c)] w (RDone R B L F ⟨s, x⟩ w) := by
  obtain ⟨s1, s2⟩ := s
  have HL := Lib.hid h
  have HSZ := Lib.hid hs
  have HS0 := Lib.hid ((AgAt.new w #[.int .i64 s1, .int .i64 s2] 32).kept ((Below.refl _ _).alloc (Nat.le_refl _) (.cells (opA x q c) 38)))
  have HO := Lib.hid (show AgAt ((w.alloc (.cells #[.int .i64 s1, .int .i64 s2] 32)).alloc (.cells (opA x q c) 38)) (w.heap.size + 1) (opA x q c) from by
    have := AgAt.new (w.alloc (.cells #[.int .i64 s1, .int .i64 s2] 32)) (opA x q c) 38
    rwa [World.size_alloc] at this)
  have HB := Lib.hid (((Below.refl w.heap.size w).alloc (Nat.le_refl _) (.cells #[.int .i64 s1, .int .i64 s2] 32)).alloc (by simp) (.cells (opA x q c) 38))
  have HP := Lib.hid (ha.kept HB.out)
  have HN := Lib.hid hn
  have HRT := Lib.hid hr
  have HLN := Lib.hid hl
  have HKK := Lib.hid hk
  have HDE := Lib.hid (show Pm.doE ⟨(s1, s2), x⟩ = 0 from by
    unfold Pm.doE Pm.okW
    rw [show okNode s1 s2 = true from hn, hr, if_pos (show (true && true) = true from rfl), if_pos hk])
  clear h hs ha hn hr hk
  go_enter Try.func13, Try.ntmps13
  go_wp2_with (refine wpList_load_ag stT (by kernel_rfl) _ rfl _ rfl (A := #[.int .i64 s1, .int .i64 s2]) rfl HS0.out ?_)
  refine (rnode_any s1 s2 _).mono ?_
  rw [HN.out]
  rintro e w2 ⟨rfl, hb2⟩
  replace HP := Lib.hid (HP.out.kept hb2)
  replace HO := Lib.hid (HO.out.kept hb2)
  replace HS0 := Lib.hid (HS0.out.kept hb2)
  replace HB := Lib.hid (HB.out.trans (hb2.mono HB.out.size))
  clear hb2
  go_wp2_with (refine wpList_load_opG otR (by kernel_rfl) _ rfl _ rfl x q c HO.out ?_)
  refine (rright_any x q c _ HSZ.out HP.out).mono ?_
  rw [HRT.out]
  rintro e w3 ⟨rfl, hb3⟩
  replace HP := Lib.hid (HP.out.kept hb3)
  replace HO := Lib.hid (HO.out.kept hb3)
  replace HS0 := Lib.hid (HS0.out.kept hb3)
  replace HB := Lib.hid (HB.out.trans (hb3.mono HB.out.size))
  clear hb3
  have HBB := Lib.hid (show B ≤ w3.heap.size from Nat.le_trans hB HB.out.size)
  have y0 : w3.cell? ⟨w.heap.size + 1, 0, none⟩ = some (.int .i64 x.k) := HO.out.cell 0
  have HE5 := Lib.hid (stK.empty (Below.refl w3.heap.size w3) (Nat.le_refl _))
  have HB5 := Lib.hid ((Below.refl w3.heap.size w3).alloc (Nat.le_refl _) (.cells #[] 32))
  have HO5 := Lib.hid (HO.out.kept HB5.out)
  have y6 : (w3.alloc (.cells #[] 32)).cell? ⟨w.heap.size + 1, 6, none⟩ = some (.slice q x.path.length c) := HO5.out.cell 6
  have HRP := Lib.hid (show Rd (w3.alloc (.cells #[] 32)) q (x.path.flatMap fun x : Qm.St => [Value.int .i64 x.1, .int .i64 x.2]) from HP.out.rd.below HB5.out)
  have HPN := Lib.hid HP.out.nil
  have HSZ3 := Lib.hid (show w.heap.size + 1 < w3.heap.size from HO.out.lt)
  rcases HKK.out with hk | hk | hk
  · rw [hk] at y0
    go_upto_region 5 with fail
    go_upto_region 6 with (first | (refine stK.wpAppend rfl _ _ rfl w3.heap.size [] x.path x.path rfl rfl HE5.out q c rfl HRP.out HPN.out (by simp only [List.length_nil]; omega) HB5.out.size ?_; intro p5 c5 w5 ho5 hg5) | (refine wpList_store_path rfl _ _ rfl (w.heap.size + 1) rfl (z := x) (q' := p5) (c' := c5) rfl (show OpAt w5 (w.heap.size + 1) x q c from (HO5.out.turn (Turns.of_grown hg5) (fun hh => by have h2 : w3.heap.size = w.heap.size + 1 := Option.some.inj hh; have := HSZ3.out; omega))) ?_; intro w6 hv6 hk6 hs6 hb6))
    have hb5 : Below w3.heap.size w3 w5 := HB5.out.trans ((Turns.of_grown hg5).below (fun k _ hk => by cases hk; exact Nat.le_refl _) HB5.out.size)
    have hown5 := own_rdK ho5
    have HPB := Lib.hid (show ∀ a, p5 = some a → w3.heap.size ≤ a.block from hown5.2.2.2)
    have HO6 := Lib.hid (show AgAt w6 (w.heap.size + 1) (opA x p5 c5) from hv6)
    have HS6 := Lib.hid ((HS0.out.kept hb5).block (hk6 _ (by omega)))
    have HB6 := Lib.hid (hb6 _ _ (HB.out.trans (hb5.mono HB.out.size)) (by omega))
    have HL6 := Lib.hid (HL.out.kept HB6.out)
    have t6 : Turns (fun k => k = w.heap.size + 1) w5 w6 := stored_turns hk6 hs6 hb6
    have HP6 := Lib.hid (show Pa w6 x p5 c5 from ⟨t6.rd hown5.1 (fun a ha => by have := hown5.2.2.2 a ha; have := HSZ3.out; omega), hown5.2.1, hown5.2.2.1⟩)
    have HBB6 := Lib.hid (show B ≤ w6.heap.size from Nat.le_trans hB HB6.out.size)
    have HBW := Lib.hid (build_wr s1 s2 x p5 c5)
    replace HBB := HBB6
    clear hb5 hown5 hv6 hk6 hs6 hb6 ho5 hg5 t6 HO5 HE5 HB5 HRP HPN HO HS0 HP HRT HN y0 y6
    refine wp_region_last_drew 12 (S := fun W => Turns (fun k => (Value.slice p L.length cp).ownBlock = some k) w6 W) (by kernel_rfl) (Turns.of_below (Below.drew (Below.refl _ _))) (fun hS => ?_)
    refine wpAnyL_take (i := 0) (v := ?_) rfl (by kernel_rfl) (by kernel_rfl) (by kernel_rfl) (fun _ _ _ h => h) (Or.inl ⟨by kernel_rfl, ?_⟩) hS (by kernel_rfl) ?_
    rotate_left
    · intro W hSW
      go_simp
      all_goals with_reducible rfl
    refine wpAnyL_take (i := 1) (v := ?_) rfl (by kernel_rfl) (by kernel_rfl) (by kernel_rfl) (fun _ _ _ h => h) (Or.inl ⟨by kernel_rfl, ?_⟩) hS (by kernel_rfl) ?_
    rotate_left
    · intro W hSW
      go_simp
      all_goals with_reducible rfl
    refine wpAnyL_take (i := 2) (v := ?_) rfl (by kernel_rfl) (by kernel_rfl) (by kernel_rfl) (fun _ _ _ h => h) (Or.inl ⟨by kernel_rfl, ?_⟩) hS (by kernel_rfl) ?_
    rotate_left
    · intro W hSW
      go_simp
      all_goals with_reducible rfl
    refine wpAnyL_take (i := 3) (v := ?_) rfl (by kernel_rfl) (by kernel_rfl) (by kernel_rfl) (fun _ _ _ h => h) (Or.inl ⟨by kernel_rfl, ?_⟩) hS (by kernel_rfl) ?_
    rotate_left
    · intro W hSW
      go_simp
      all_goals with_reducible rfl
    go_simp
    refine wpAnyL_take (i := 4) (v := ?_) rfl (by kernel_rfl) (by kernel_rfl) (by kernel_rfl) (fun _ _ _ h => h) (Or.inl ⟨by kernel_rfl, ?_⟩) hS (by kernel_rfl) ?_
    rotate_left
    · intro W hSW
      have y9 : W.cell? ⟨R, 0, none⟩ = some (.slice p L.length cp) := (HL6.out.box.turn hSW (fun hh => (HL6.out.fo R hh).2 rfl)).cell 0
      go_simp
      all_goals with_reducible rfl
    go_simp
    refine wpAnyL_take (i := 5) (v := .agg #[.int .i64 s1, .int .i64 s2]) rfl (by kernel_rfl) (by kernel_rfl) (by kernel_rfl) (fun _ _ _ h => h) (Or.inl ⟨by kernel_rfl, fun W hSW => exec_load_ag stT rfl rfl rfl (HS6.out.turn hSW (fun hh => by have := HL.out.lt _ (HL6.out.fo _ hh).1; omega))⟩) hS (by kernel_rfl) ?_
    go_simp
    refine wpAnyL_take (i := 6) (v := .agg (opA x p5 c5)) rfl (by kernel_rfl) (by kernel_rfl) (by kernel_rfl) (fun _ _ _ h => h) (Or.inl ⟨by kernel_rfl, fun W hSW => exec_load_ag opT12 rfl rfl rfl (HO6.out.turn hSW (fun hh => by have := HL.out.lt _ (HL6.out.fo _ hh).1; omega))⟩) hS (by kernel_rfl) ?_
    go_simp
    refine wpAnyL_take (i := 7) (v := .agg (wrA ⟨⟨(s1, s2), x⟩, p5, c5⟩)) rfl (by kernel_rfl) (by kernel_rfl) (by kernel_rfl) (fun _ _ _ h => h) (Or.inl ⟨by kernel_rfl, fun W _ => exec_build2 rfl rfl rfl HBW.out W⟩) hS (by kernel_rfl) ?_
    go_simp
    refine wpAnyL_ready (rs := [8]) (by kernel_rfl) (by simp) ?_
    refine AllReadyL.cons rfl (fun K hK => ?_) AllReadyL.nil
    refine step_of (by kernel_rfl) ?_
    refine wp_build1 _ rfl _ rfl (buildS_wr ⟨⟨(s1, s2), x⟩, p5, c5⟩) ?_
    have HB8 := Lib.hid (show Below w6.heap.size w6 (w6.drew.alloc (.cells (wrA ⟨⟨(s1, s2), x⟩, p5, c5⟩) 40)) from (Below.drew (Below.refl _ _)).alloc (Nat.le_refl _) _)
    have HRD8 := Lib.hid (rd_new1 (B := 0) (Below.refl _ w6.drew) ceW (⟨⟨(s1, s2), x⟩, p5, c5⟩ : WrE) 40)
    refine hK.out _ _ (Turns.of_below HB8.out) (fun hS => ?_)
    clear hK K
    generalize w6.drew.alloc (.cells (wrA ⟨⟨(s1, s2), x⟩, p5, c5⟩) 40) = w8 at *
    refine wpAnyL_ready (rs := [9]) (by kernel_rfl) (by simp) ?_
    refine AllReadyL.cons rfl (fun K hK => ?_) AllReadyL.nil
    refine wrK.appendG (by kernel_rfl) _ _ rfl B L [⟨⟨(s1, s2), x⟩, p5, c5⟩] (L ++ [⟨⟨(s1, s2), x⟩, p5, c5⟩]) rfl rfl (HL6.out.kept HB8.out).own _ 1 rfl HRD8.out (fun e => by cases e) (by have := HLN.out; simp only [List.length_cons, List.length_nil]; omega) (Nat.le_trans HBB.out HB8.out.size) ?_
    intro p9 c9 w9 ho9 hg9 h39
    have HE := Lib.hid (show RDone R B L F ⟨(s1, s2), x⟩ w (.returned (.int .i64 0)) (w9.setCell ⟨R, 0, none⟩ (.slice p9 (L ++ [(⟨⟨(s1, s2), x⟩, p5, c5⟩ : WrE)]).length c9)) from by
      have hg := (HL6.out.kept HB8.out).grow (w := w) HL.out.lt (HB6.out.trans (HB8.out.mono HB6.out.size)) ⟨⟨(s1, s2), x⟩, p5, c5⟩ (HP6.out.kept HB8.out) (fun h0 a ha => ⟨by have := HPB.out a ha; have := HB.out.size; omega, by
        obtain ⟨b, oo, hp, hbl⟩ := HP6.out.rd.addr (by have h1 : 0 < x.path.length := h0; rw [stCells_length]; omega)
        rw [hp] at ha
        cases ha
        exact Nat.lt_of_lt_of_le hbl HB8.out.size⟩) ho9 hg9 h39
      refine ⟨by rw [HDE.out], _, p9, c9, hg.1, ?_, fun e he => ?_, by simp, hg.2⟩
      · rw [if_pos (show Pm.kept ⟨(s1, s2), x⟩ = true from by unfold Pm.kept; rw [HDE.out]; rfl)]
        unfold pl
        rw [List.map_append]
        rfl
      · rcases List.mem_append.1 he with he | he
        · exact Or.inl he
        · rw [List.mem_singleton.1 he]; exact Or.inr rfl)
    have HBOX9 := Lib.hid (show AgAt w9 R #[.slice p L.length cp] from ((HL6.out.kept HB8.out).box.turn (Turns.of_grown hg9) (fun hh => (HL6.out.fo R hh).2 rfl)))
    refine hK.out _ _ ((Turns.of_below HB8.out).trans ((Turns.of_grown hg9).mono fun _ _ h => Or.inl h)) (fun hS => ?_)
    clear hK K ho9 hg9 h39
    refine wpAnyL_ready (rs := [10]) (by kernel_rfl) (by simp) ?_
    refine AllReadyL.cons rfl (fun K hK => ?_) AllReadyL.nil
    go_simp
    refine hK.out _ _ hS (fun hS => ?_)
    clear hK K
    refine wpAnyL_take (i := 11) (v := ?_) rfl (by kernel_rfl) (by kernel_rfl) (by kernel_rfl) (fun _ _ _ h => h) (Or.inl ⟨by kernel_rfl, ?_⟩) hS (by kernel_rfl) ?_
    rotate_left
    · intro W hSW
      go_simp
      all_goals with_reducible rfl
    go_simp
    refine wpAnyL_ready (rs := [12]) (by kernel_rfl) (by simp) ?_
    refine AllReadyL.last rfl (fun K hK => ?_)
    have y9 : w9.cell? ⟨R, 0, none⟩ = some (.slice p L.length cp) := HBOX9.out.cell 0
    have f9 := HBOX9.out.free 0
    clear hS
    go_simp
    refine hK.out _ _ ?_
    clear hK K
    refine wpAnyL_done (by kernel_rfl) ?_ _
    go_simp
    go_wp2
    go_ret
    have h := HE.out
    simp only [List.length_append, List.length_cons, List.length_nil, Nat.zero_add] at h
    exact h
  · rw [hk] at y0
    go_upto_region 5 with fail
    go_upto_region 6 with (first | (refine stK.wpAppend rfl _ _ rfl w3.heap.size [] x.path x.path rfl rfl HE5.out q c rfl HRP.out HPN.out (by simp only [List.length_nil]; omega) HB5.out.size ?_; intro p5 c5 w5 ho5 hg5) | (refine wpList_store_path rfl _ _ rfl (w.heap.size + 1) rfl (z := x) (q' := p5) (c' := c5) rfl (show OpAt w5 (w.heap.size + 1) x q c from (HO5.out.turn (Turns.of_grown hg5) (fun hh => by have h2 : w3.heap.size = w.heap.size + 1 := Option.some.inj hh; have := HSZ3.out; omega))) ?_; intro w6 hv6 hk6 hs6 hb6))
    have hb5 : Below w3.heap.size w3 w5 := HB5.out.trans ((Turns.of_grown hg5).below (fun k _ hk => by cases hk; exact Nat.le_refl _) HB5.out.size)
    have hown5 := own_rdK ho5
    have HPB := Lib.hid (show ∀ a, p5 = some a → w3.heap.size ≤ a.block from hown5.2.2.2)
    have HO6 := Lib.hid (show AgAt w6 (w.heap.size + 1) (opA x p5 c5) from hv6)
    have HS6 := Lib.hid ((HS0.out.kept hb5).block (hk6 _ (by omega)))
    have HB6 := Lib.hid (hb6 _ _ (HB.out.trans (hb5.mono HB.out.size)) (by omega))
    have HL6 := Lib.hid (HL.out.kept HB6.out)
    have t6 : Turns (fun k => k = w.heap.size + 1) w5 w6 := stored_turns hk6 hs6 hb6
    have HP6 := Lib.hid (show Pa w6 x p5 c5 from ⟨t6.rd hown5.1 (fun a ha => by have := hown5.2.2.2 a ha; have := HSZ3.out; omega), hown5.2.1, hown5.2.2.1⟩)
    have HBB6 := Lib.hid (show B ≤ w6.heap.size from Nat.le_trans hB HB6.out.size)
    have HBW := Lib.hid (build_wr s1 s2 x p5 c5)
    replace HBB := HBB6
    clear hb5 hown5 hv6 hk6 hs6 hb6 ho5 hg5 t6 HO5 HE5 HB5 HRP HPN HO HS0 HP HRT HN y0 y6
    refine wp_region_last_drew 12 (S := fun W => Turns (fun k => (Value.slice p L.length cp).ownBlock = some k) w6 W) (by kernel_rfl) (Turns.of_below (Below.drew (Below.refl _ _))) (fun hS => ?_)
    refine wpAnyL_take (i := 0) (v := ?_) rfl (by kernel_rfl) (by kernel_rfl) (by kernel_rfl) (fun _ _ _ h => h) (Or.inl ⟨by kernel_rfl, ?_⟩) hS (by kernel_rfl) ?_
    rotate_left
    · intro W hSW
      go_simp
      all_goals with_reducible rfl
    refine wpAnyL_take (i := 1) (v := ?_) rfl (by kernel_rfl) (by kernel_rfl) (by kernel_rfl) (fun _ _ _ h => h) (Or.inl ⟨by kernel_rfl, ?_⟩) hS (by kernel_rfl) ?_
    rotate_left
    · intro W hSW
      go_simp
      all_goals with_reducible rfl
    refine wpAnyL_take (i := 2) (v := ?_) rfl (by kernel_rfl) (by kernel_rfl) (by kernel_rfl) (fun _ _ _ h => h) (Or.inl ⟨by kernel_rfl, ?_⟩) hS (by kernel_rfl) ?_
    rotate_left
    · intro W hSW
      go_simp
      all_goals with_reducible rfl
    refine wpAnyL_take (i := 3) (v := ?_) rfl (by kernel_rfl) (by kernel_rfl) (by kernel_rfl) (fun _ _ _ h => h) (Or.inl ⟨by kernel_rfl, ?_⟩) hS (by kernel_rfl) ?_
    rotate_left
    · intro W hSW
      go_simp
      all_goals with_reducible rfl
    go_simp
    refine wpAnyL_take (i := 4) (v := ?_) rfl (by kernel_rfl) (by kernel_rfl) (by kernel_rfl) (fun _ _ _ h => h) (Or.inl ⟨by kernel_rfl, ?_⟩) hS (by kernel_rfl) ?_
    rotate_left
    · intro W hSW
      have y9 : W.cell? ⟨R, 0, none⟩ = some (.slice p L.length cp) := (HL6.out.box.turn hSW (fun hh => (HL6.out.fo R hh).2 rfl)).cell 0
      go_simp
      all_goals with_reducible rfl
    go_simp
    refine wpAnyL_take (i := 5) (v := .agg #[.int .i64 s1, .int .i64 s2]) rfl (by kernel_rfl) (by kernel_rfl) (by kernel_rfl) (fun _ _ _ h => h) (Or.inl ⟨by kernel_rfl, fun W hSW => exec_load_ag stT rfl rfl rfl (HS6.out.turn hSW (fun hh => by have := HL.out.lt _ (HL6.out.fo _ hh).1; omega))⟩) hS (by kernel_rfl) ?_
    go_simp
    refine wpAnyL_take (i := 6) (v := .agg (opA x p5 c5)) rfl (by kernel_rfl) (by kernel_rfl) (by kernel_rfl) (fun _ _ _ h => h) (Or.inl ⟨by kernel_rfl, fun W hSW => exec_load_ag opT12 rfl rfl rfl (HO6.out.turn hSW (fun hh => by have := HL.out.lt _ (HL6.out.fo _ hh).1; omega))⟩) hS (by kernel_rfl) ?_
    go_simp
    refine wpAnyL_take (i := 7) (v := .agg (wrA ⟨⟨(s1, s2), x⟩, p5, c5⟩)) rfl (by kernel_rfl) (by kernel_rfl) (by kernel_rfl) (fun _ _ _ h => h) (Or.inl ⟨by kernel_rfl, fun W _ => exec_build2 rfl rfl rfl HBW.out W⟩) hS (by kernel_rfl) ?_
    go_simp
    refine wpAnyL_ready (rs := [8]) (by kernel_rfl) (by simp) ?_
    refine AllReadyL.cons rfl (fun K hK => ?_) AllReadyL.nil
    refine step_of (by kernel_rfl) ?_
    refine wp_build1 _ rfl _ rfl (buildS_wr ⟨⟨(s1, s2), x⟩, p5, c5⟩) ?_
    have HB8 := Lib.hid (show Below w6.heap.size w6 (w6.drew.alloc (.cells (wrA ⟨⟨(s1, s2), x⟩, p5, c5⟩) 40)) from (Below.drew (Below.refl _ _)).alloc (Nat.le_refl _) _)
    have HRD8 := Lib.hid (rd_new1 (B := 0) (Below.refl _ w6.drew) ceW (⟨⟨(s1, s2), x⟩, p5, c5⟩ : WrE) 40)
    refine hK.out _ _ (Turns.of_below HB8.out) (fun hS => ?_)
    clear hK K
    generalize w6.drew.alloc (.cells (wrA ⟨⟨(s1, s2), x⟩, p5, c5⟩) 40) = w8 at *
    refine wpAnyL_ready (rs := [9]) (by kernel_rfl) (by simp) ?_
    refine AllReadyL.cons rfl (fun K hK => ?_) AllReadyL.nil
    refine wrK.appendG (by kernel_rfl) _ _ rfl B L [⟨⟨(s1, s2), x⟩, p5, c5⟩] (L ++ [⟨⟨(s1, s2), x⟩, p5, c5⟩]) rfl rfl (HL6.out.kept HB8.out).own _ 1 rfl HRD8.out (fun e => by cases e) (by have := HLN.out; simp only [List.length_cons, List.length_nil]; omega) (Nat.le_trans HBB.out HB8.out.size) ?_
    intro p9 c9 w9 ho9 hg9 h39
    have HE := Lib.hid (show RDone R B L F ⟨(s1, s2), x⟩ w (.returned (.int .i64 0)) (w9.setCell ⟨R, 0, none⟩ (.slice p9 (L ++ [(⟨⟨(s1, s2), x⟩, p5, c5⟩ : WrE)]).length c9)) from by
      have hg := (HL6.out.kept HB8.out).grow (w := w) HL.out.lt (HB6.out.trans (HB8.out.mono HB6.out.size)) ⟨⟨(s1, s2), x⟩, p5, c5⟩ (HP6.out.kept HB8.out) (fun h0 a ha => ⟨by have := HPB.out a ha; have := HB.out.size; omega, by
        obtain ⟨b, oo, hp, hbl⟩ := HP6.out.rd.addr (by have h1 : 0 < x.path.length := h0; rw [stCells_length]; omega)
        rw [hp] at ha
        cases ha
        exact Nat.lt_of_lt_of_le hbl HB8.out.size⟩) ho9 hg9 h39
      refine ⟨by rw [HDE.out], _, p9, c9, hg.1, ?_, fun e he => ?_, by simp, hg.2⟩
      · rw [if_pos (show Pm.kept ⟨(s1, s2), x⟩ = true from by unfold Pm.kept; rw [HDE.out]; rfl)]
        unfold pl
        rw [List.map_append]
        rfl
      · rcases List.mem_append.1 he with he | he
        · exact Or.inl he
        · rw [List.mem_singleton.1 he]; exact Or.inr rfl)
    have HBOX9 := Lib.hid (show AgAt w9 R #[.slice p L.length cp] from ((HL6.out.kept HB8.out).box.turn (Turns.of_grown hg9) (fun hh => (HL6.out.fo R hh).2 rfl)))
    refine hK.out _ _ ((Turns.of_below HB8.out).trans ((Turns.of_grown hg9).mono fun _ _ h => Or.inl h)) (fun hS => ?_)
    clear hK K ho9 hg9 h39
    refine wpAnyL_ready (rs := [10]) (by kernel_rfl) (by simp) ?_
    refine AllReadyL.cons rfl (fun K hK => ?_) AllReadyL.nil
    go_simp
    refine hK.out _ _ hS (fun hS => ?_)
    clear hK K
    refine wpAnyL_take (i := 11) (v := ?_) rfl (by kernel_rfl) (by kernel_rfl) (by kernel_rfl) (fun _ _ _ h => h) (Or.inl ⟨by kernel_rfl, ?_⟩) hS (by kernel_rfl) ?_
    rotate_left
    · intro W hSW
      go_simp
      all_goals with_reducible rfl
    go_simp
    refine wpAnyL_ready (rs := [12]) (by kernel_rfl) (by simp) ?_
    refine AllReadyL.last rfl (fun K hK => ?_)
    have y9 : w9.cell? ⟨R, 0, none⟩ = some (.slice p L.length cp) := HBOX9.out.cell 0
    have f9 := HBOX9.out.free 0
    clear hS
    go_simp
    refine hK.out _ _ ?_
    clear hK K
    refine wpAnyL_done (by kernel_rfl) ?_ _
    go_simp
    go_wp2
    go_ret
    have h := HE.out
    simp only [List.length_append, List.length_cons, List.length_nil, Nat.zero_add] at h
    exact h
  · rw [hk] at y0
    go_upto_region 5 with fail
    go_upto_region 6 with (first | (refine stK.wpAppend rfl _ _ rfl w3.heap.size [] x.path x.path rfl rfl HE5.out q c rfl HRP.out HPN.out (by simp only [List.length_nil]; omega) HB5.out.size ?_; intro p5 c5 w5 ho5 hg5) | (refine wpList_store_path rfl _ _ rfl (w.heap.size + 1) rfl (z := x) (q' := p5) (c' := c5) rfl (show OpAt w5 (w.heap.size + 1) x q c from (HO5.out.turn (Turns.of_grown hg5) (fun hh => by have h2 : w3.heap.size = w.heap.size + 1 := Option.some.inj hh; have := HSZ3.out; omega))) ?_; intro w6 hv6 hk6 hs6 hb6))
    have hb5 : Below w3.heap.size w3 w5 := HB5.out.trans ((Turns.of_grown hg5).below (fun k _ hk => by cases hk; exact Nat.le_refl _) HB5.out.size)
    have hown5 := own_rdK ho5
    have HPB := Lib.hid (show ∀ a, p5 = some a → w3.heap.size ≤ a.block from hown5.2.2.2)
    have HO6 := Lib.hid (show AgAt w6 (w.heap.size + 1) (opA x p5 c5) from hv6)
    have HS6 := Lib.hid ((HS0.out.kept hb5).block (hk6 _ (by omega)))
    have HB6 := Lib.hid (hb6 _ _ (HB.out.trans (hb5.mono HB.out.size)) (by omega))
    have HL6 := Lib.hid (HL.out.kept HB6.out)
    have t6 : Turns (fun k => k = w.heap.size + 1) w5 w6 := stored_turns hk6 hs6 hb6
    have HP6 := Lib.hid (show Pa w6 x p5 c5 from ⟨t6.rd hown5.1 (fun a ha => by have := hown5.2.2.2 a ha; have := HSZ3.out; omega), hown5.2.1, hown5.2.2.1⟩)
    have HBB6 := Lib.hid (show B ≤ w6.heap.size from Nat.le_trans hB HB6.out.size)
    have HBW := Lib.hid (build_wr s1 s2 x p5 c5)
    replace HBB := HBB6
    clear hb5 hown5 hv6 hk6 hs6 hb6 ho5 hg5 t6 HO5 HE5 HB5 HRP HPN HO HS0 HP HRT HN y0 y6
    refine wp_region_last_drew 12 (S := fun W => Turns (fun k => (Value.slice p L.length cp).ownBlock = some k) w6 W) (by kernel_rfl) (Turns.of_below (Below.drew (Below.refl _ _))) (fun hS => ?_)
    refine wpAnyL_take (i := 0) (v := ?_) rfl (by kernel_rfl) (by kernel_rfl) (by kernel_rfl) (fun _ _ _ h => h) (Or.inl ⟨by kernel_rfl, ?_⟩) hS (by kernel_rfl) ?_
    rotate_left
    · intro W hSW
      go_simp
      all_goals with_reducible rfl
    refine wpAnyL_take (i := 1) (v := ?_) rfl (by kernel_rfl) (by kernel_rfl) (by kernel_rfl) (fun _ _ _ h => h) (Or.inl ⟨by kernel_rfl, ?_⟩) hS (by kernel_rfl) ?_
    rotate_left
    · intro W hSW
      go_simp
      all_goals with_reducible rfl
    refine wpAnyL_take (i := 2) (v := ?_) rfl (by kernel_rfl) (by kernel_rfl) (by kernel_rfl) (fun _ _ _ h => h) (Or.inl ⟨by kernel_rfl, ?_⟩) hS (by kernel_rfl) ?_
    rotate_left
    · intro W hSW
      go_simp
      all_goals with_reducible rfl
    refine wpAnyL_take (i := 3) (v := ?_) rfl (by kernel_rfl) (by kernel_rfl) (by kernel_rfl) (fun _ _ _ h => h) (Or.inl ⟨by kernel_rfl, ?_⟩) hS (by kernel_rfl) ?_
    rotate_left
    · intro W hSW
      go_simp
      all_goals with_reducible rfl
    go_simp
    refine wpAnyL_take (i := 4) (v := ?_) rfl (by kernel_rfl) (by kernel_rfl) (by kernel_rfl) (fun _ _ _ h => h) (Or.inl ⟨by kernel_rfl, ?_⟩) hS (by kernel_rfl) ?_
    rotate_left
    · intro W hSW
      have y9 : W.cell? ⟨R, 0, none⟩ = some (.slice p L.length cp) := (HL6.out.box.turn hSW (fun hh => (HL6.out.fo R hh).2 rfl)).cell 0
      go_simp
      all_goals with_reducible rfl
    go_simp
    refine wpAnyL_take (i := 5) (v := .agg #[.int .i64 s1, .int .i64 s2]) rfl (by kernel_rfl) (by kernel_rfl) (by kernel_rfl) (fun _ _ _ h => h) (Or.inl ⟨by kernel_rfl, fun W hSW => exec_load_ag stT rfl rfl rfl (HS6.out.turn hSW (fun hh => by have := HL.out.lt _ (HL6.out.fo _ hh).1; omega))⟩) hS (by kernel_rfl) ?_
    go_simp
    refine wpAnyL_take (i := 6) (v := .agg (opA x p5 c5)) rfl (by kernel_rfl) (by kernel_rfl) (by kernel_rfl) (fun _ _ _ h => h) (Or.inl ⟨by kernel_rfl, fun W hSW => exec_load_ag opT12 rfl rfl rfl (HO6.out.turn hSW (fun hh => by have := HL.out.lt _ (HL6.out.fo _ hh).1; omega))⟩) hS (by kernel_rfl) ?_
    go_simp
    refine wpAnyL_take (i := 7) (v := .agg (wrA ⟨⟨(s1, s2), x⟩, p5, c5⟩)) rfl (by kernel_rfl) (by kernel_rfl) (by kernel_rfl) (fun _ _ _ h => h) (Or.inl ⟨by kernel_rfl, fun W _ => exec_build2 rfl rfl rfl HBW.out W⟩) hS (by kernel_rfl) ?_
    go_simp
    refine wpAnyL_ready (rs := [8]) (by kernel_rfl) (by simp) ?_
    refine AllReadyL.cons rfl (fun K hK => ?_) AllReadyL.nil
    refine step_of (by kernel_rfl) ?_
    refine wp_build1 _ rfl _ rfl (buildS_wr ⟨⟨(s1, s2), x⟩, p5, c5⟩) ?_
    have HB8 := Lib.hid (show Below w6.heap.size w6 (w6.drew.alloc (.cells (wrA ⟨⟨(s1, s2), x⟩, p5, c5⟩) 40)) from (Below.drew (Below.refl _ _)).alloc (Nat.le_refl _) _)
    have HRD8 := Lib.hid (rd_new1 (B := 0) (Below.refl _ w6.drew) ceW (⟨⟨(s1, s2), x⟩, p5, c5⟩ : WrE) 40)
    refine hK.out _ _ (Turns.of_below HB8.out) (fun hS => ?_)
    clear hK K
    generalize w6.drew.alloc (.cells (wrA ⟨⟨(s1, s2), x⟩, p5, c5⟩) 40) = w8 at *
    refine wpAnyL_ready (rs := [9]) (by kernel_rfl) (by simp) ?_
    refine AllReadyL.cons rfl (fun K hK => ?_) AllReadyL.nil
    refine wrK.appendG (by kernel_rfl) _ _ rfl B L [⟨⟨(s1, s2), x⟩, p5, c5⟩] (L ++ [⟨⟨(s1, s2), x⟩, p5, c5⟩]) rfl rfl (HL6.out.kept HB8.out).own _ 1 rfl HRD8.out (fun e => by cases e) (by have := HLN.out; simp only [List.length_cons, List.length_nil]; omega) (Nat.le_trans HBB.out HB8.out.size) ?_
    intro p9 c9 w9 ho9 hg9 h39
    have HE := Lib.hid (show RDone R B L F ⟨(s1, s2), x⟩ w (.returned (.int .i64 0)) (w9.setCell ⟨R, 0, none⟩ (.slice p9 (L ++ [(⟨⟨(s1, s2), x⟩, p5, c5⟩ : WrE)]).length c9)) from by
      have hg := (HL6.out.kept HB8.out).grow (w := w) HL.out.lt (HB6.out.trans (HB8.out.mono HB6.out.size)) ⟨⟨(s1, s2), x⟩, p5, c5⟩ (HP6.out.kept HB8.out) (fun h0 a ha => ⟨by have := HPB.out a ha; have := HB.out.size; omega, by
        obtain ⟨b, oo, hp, hbl⟩ := HP6.out.rd.addr (by have h1 : 0 < x.path.length := h0; rw [stCells_length]; omega)
        rw [hp] at ha
        cases ha
        exact Nat.lt_of_lt_of_le hbl HB8.out.size⟩) ho9 hg9 h39
      refine ⟨by rw [HDE.out], _, p9, c9, hg.1, ?_, fun e he => ?_, by simp, hg.2⟩
      · rw [if_pos (show Pm.kept ⟨(s1, s2), x⟩ = true from by unfold Pm.kept; rw [HDE.out]; rfl)]
        unfold pl
        rw [List.map_append]
        rfl
      · rcases List.mem_append.1 he with he | he
        · exact Or.inl he
        · rw [List.mem_singleton.1 he]; exact Or.inr rfl)
    have HBOX9 := Lib.hid (show AgAt w9 R #[.slice p L.length cp] from ((HL6.out.kept HB8.out).box.turn (Turns.of_grown hg9) (fun hh => (HL6.out.fo R hh).2 rfl)))
    refine hK.out _ _ ((Turns.of_below HB8.out).trans ((Turns.of_grown hg9).mono fun _ _ h => Or.inl h)) (fun hS => ?_)
    clear hK K ho9 hg9 h39
    refine wpAnyL_ready (rs := [10]) (by kernel_rfl) (by simp) ?_
    refine AllReadyL.cons rfl (fun K hK => ?_) AllReadyL.nil
    go_simp
    refine hK.out _ _ hS (fun hS => ?_)
    clear hK K
    refine wpAnyL_take (i := 11) (v := ?_) rfl (by kernel_rfl) (by kernel_rfl) (by kernel_rfl) (fun _ _ _ h => h) (Or.inl ⟨by kernel_rfl, ?_⟩) hS (by kernel_rfl) ?_
    rotate_left
    · intro W hSW
      go_simp
      all_goals with_reducible rfl
    go_simp
    refine wpAnyL_ready (rs := [12]) (by kernel_rfl) (by simp) ?_
    refine AllReadyL.last rfl (fun K hK => ?_)
    have y9 : w9.cell? ⟨R, 0, none⟩ = some (.slice p L.length cp) := HBOX9.out.cell 0
    have f9 := HBOX9.out.free 0
    clear hS
    go_simp
    refine hK.out _ _ ?_
    clear hK K
    refine wpAnyL_done (by kernel_rfl) ?_ _
    go_simp
    go_wp2
    go_ret
    have h := HE.out
    simp only [List.length_append, List.length_cons, List.length_nil, Nat.zero_add] at h
    exact h

theorem rdo_any {R B : Nat} {L : List WrE} {p : Option Addr} {cp : Nat} {F : Nat → Prop} (s : Qm.St) (x : Opp) (q : Option Addr) (c : Nat) (w : World) (h : RefL w R L p cp B F) (hs : Sz x) (ha : Pa w x q c) (hl : L.length ≤ 200) (hpl : x.path.length ≤ 200) (hB : B ≤ w.heap.size) :
    Calls Try.prog 13 #[.pointer (some ⟨R, 0, none⟩), .agg #[.int .i64 s.1, .int .i64 s.2], .agg (opA x q c)] w (RDone R B L F ⟨s, x⟩ w) := by
  cases hn : okNode s.1 s.2 with
  | false => exact rdo0_any s x q c w h hs ha hn
  | true =>
    cases hr : rightO x with
    | false => exact rdo1_any s x q c w h hs ha hn hr
    | true =>
      by_cases hk : x.k = 3 ∨ x.k = 4 ∨ x.k = 6
      · exact rdoY_any s x q c w h hs ha hn hr hk hl hpl hB
      exact rdoK_any s x q c w h hs ha hn hr (fun h => hk (Or.inl h)) (fun h => hk (Or.inr (Or.inl h))) (fun h => hk (Or.inr (Or.inr h)))
end Go.Proofs.Ytcenmkcencdlcaa
