/-
  READING, whatever the reader's error is: numbers, stamps, texts, values, the Path, On.
  No conditions but sizes.
  READING, whatever the reader's error is: values, On, the Path.
  No conditions but sizes.
  READING a Path: as many stamps as its count says, until an error.
  Conditions: at most 10^12 bytes are left, or the count is at most 10^12.
-/
import Derived.Test.YthpdphlkmleldaaGreatOFit
namespace Go.Proofs.YthpdphlkmleldaaGreat
open Go.RowKit

/-- a reader that has s left -/
def RdS (w : World) (B b : Nat) (s : RS) : Prop := Rdr w B b s.1 s.2
theorem RdS.kept {w w' : World} {B b : Nat} {s : RS} (h : RdS w B b s) (hb : Below w.heap.size w w') : RdS w' B b s := Rdr.kept h hb
theorem RdS.lt {w : World} {B b : Nat} {s : RS} (h : RdS w B b s) : b < w.heap.size := Rdr.lt h
theorem RdS.len {w : World} {B b : Nat} {s : RS} (h : RdS w B b s) : s.1.length ≤ 4611686018427387904 := h.2.2.2.2.2.1

set_option maxRecDepth 100000 in
theorem nums_any (B b : Nat) (s : RS) (w : World) (h : RdS w B b s) : Calls Tryz.prog 49 #[.pointer (some ⟨b, 0, none⟩)] w fun e w' => e = .returned (.int .i64 ((numS s).1 : Nat)) ∧ RdS w' B b (numS s).2 ∧ Only b w w' := by
  obtain ⟨l, e⟩ := s
  by_cases he : e = 0
  · subst he
    have : numS (l, 0) = uptoR l 281474976710655 := by unfold numS; rw [if_neg (by simp)]
    rw [this]
    exact rnum_any B b l w h
  · have HN := Lib.hid (show numS (l, e) = (0, (l, e)) by unfold numS; rw [if_pos he])
    have HR := Lib.hid h
    have HE := Lib.hid he
    clear h he
    go_enter Tryz.func49, Tryz.ntmps49
    go_wp2_with fail
    refine (upto_bad B b l e 281474976710655 w HR.out HE.out).mono ?_
    rintro e w' ⟨rfl, rfl⟩
    go_wp2
    go_ret
    rw [HN.out]
    exact ⟨rfl, HR.out, Only.refl _ _⟩
theorem texts_any (B b : Nat) (s : RS) (w : World) (h : RdS w B b s) : Calls Tryz.prog 81 #[.pointer (some ⟨b, 0, none⟩)] w fun e w' => e = .returned (.string (txS s).1) ∧ RdS w' B b (txS s).2 ∧ Only b w w' := by
  obtain ⟨l, e⟩ := s
  by_cases he : e = 0
  · subst he
    have : txS (l, 0) = (strB (textR l).1, (textR l).2) := by unfold txS; rw [if_neg (by simp)]
    rw [this]
    exact rtext_any B b l w h
  · have : txS (l, e) = (⟨#[]⟩, (l, e)) := by unfold txS; rw [if_pos he]
    rw [this]
    refine (text_bad B b l e w h he).mono ?_
    rintro e w' ⟨rfl, rfl⟩
    exact ⟨rfl, h, Only.refl _ _⟩
set_option maxRecDepth 100000 in
set_option maxHeartbeats 1000000 in
theorem sts_any (B b : Nat) (s : RS) (w : World) (h : RdS w B b s) : Calls Tryz.prog 80 #[.pointer (some ⟨b, 0, none⟩)] w fun e w' => e = .returned (.agg #[.int .i64 (stS s).1.1, .int .i64 (stS s).1.2]) ∧ RdS w' B b (stS s).2 ∧ Only b w w' := by
  obtain ⟨l, e⟩ := s
  by_cases he : e = 0
  · subst he
    have : stS (l, 0) = (((takeR l).1, (takeR l).2.1), (takeR l).2.2) := by unfold stS; rw [if_neg (by simp)]
    rw [this]
    exact take_any B b l w h
  · have HN := Lib.hid (show stS (l, e) = ((0, 0), (l, e)) by unfold stS; rw [if_pos he])
    have hb := (Below.refl w.heap.size w).alloc (Nat.le_refl _) (.cells #[.int .i64 0, .int .i64 0] 47)
    have HO0 := Lib.hid (Only.of_below (b := b) hb)
    have HR := Lib.hid (show Rdr _ B b l e from h.kept hb)
    have HE := Lib.hid he
    have te : ((e : Int) != 0) = true := by rw [bne_iff_ne]; omega
    clear h he hb
    go_enter Tryz.func80, Tryz.ntmps80
    go_wp2_with fail
    refine (upto_bad B b l e 1099511627776 _ HR.out HE.out).mono ?_
    rintro e w' ⟨rfl, rfl⟩
    go_wp2_with fail
    refine (upto_bad B b l _ 15 _ HR.out HE.out).mono ?_
    rintro e w' ⟨rfl, rfl⟩
    go_wp2_with fail
    refine (err_any B b l _ _ HR.out).mono ?_
    rintro e w' ⟨rfl, rfl⟩
    go_wp2
    refine bodyPost_ret (v := .agg #[.int .i64 0, .int .i64 0]) (by simp [results, Tryz.results80, go_sem]) rfl ?_
    rw [HN.out]
    exact ⟨rfl, HR.out, HO0.out⟩
end Go.Proofs.YthpdphlkmleldaaGreat

namespace Go.Proofs.YthpdphlkmleldaaGreat
open Go.RowKit

theorem errs_any (B b : Nat) (s : RS) (w : World) (h : RdS w B b s) : Calls Tryz.prog 51 #[.pointer (some ⟨b, 0, none⟩)] w fun e w' => e = .returned (.int .i64 (s.2 : Int)) ∧ w = w' := err_any B b s.1 s.2 w h
theorem fails_any (B b : Nat) (s : RS) (w : World) (h : RdS w B b s) : Calls Tryz.prog 52 #[.pointer (some ⟨b, 0, none⟩), .int .i64 21] w fun e w' => e = .returned (.tuple #[]) ∧ RdS w' B b (failS 21 s) ∧ Only b w w' := fail_any B b s.1 s.2 21 w h
/-- what turns above the reader leaves it -/
theorem Rdr.under {w w' : World} {B b M : Nat} {l : List UInt8} {err : Nat} (h : Rdr w B b l err) (hb : Below M w w') (hM : b < M) : Rdr w' B b l err := by
  obtain ⟨h0, h1, h2, h3, h4, h5, p, c, h6, h7, h8, h9, h10⟩ := h
  exact ⟨h0, by rw [hb.cell (by simpa using hM)]; exact h1, by rw [hb.cell (by simpa using hM)]; exact h2, by rw [hb.frozen (by simpa using hM)]; exact h3, by rw [hb.frozen (by simpa using hM)]; exact h4, h5, p, c, by rw [hb.cell (by simpa using hM)]; exact h6,
    h7.below hb (fun a ha => Nat.lt_trans (h10 a ha).1 hM), h8, h9, h10⟩
theorem RdS.under {w w' : World} {B b M : Nat} {s : RS} (h : RdS w B b s) (hb : Below M w w') (hM : b < M) : RdS w' B b s := Rdr.under h hb hM

set_option maxRecDepth 100000 in
set_option maxHeartbeats 1000000 in
theorem vls_any (B b : Nat) (s : RS) (w : World) (h : RdS w B b s) : Calls Tryz.prog 83 #[.pointer (some ⟨b, 0, none⟩)] w fun e w' => e = .returned (.agg #[.int .i64 (vlS s).1.1, .int .i64 (vlS s).1.2.1, .string (vlS s).1.2.2]) ∧ RdS w' B b (vlS s).2 ∧ Only b w w' := by
  obtain ⟨l, e⟩ := s
  by_cases he : e = 0
  · subst he
    have : vlS (l, 0) = (((takeV l).1, (takeV l).2.1, strB (takeV l).2.2.1), (takeV l).2.2.2) := by unfold vlS; rw [if_neg (by simp)]
    rw [this]
    exact vtake_any B b l w h
  · have HN := Lib.hid (show vlS (l, e) = ((0, 0, ⟨#[]⟩), (l, e)) by unfold vlS; rw [if_pos he])
    have hb := (Below.refl w.heap.size w).alloc (Nat.le_refl _) (.cells #[.int .i64 0, .int .i64 0, .string ⟨#[]⟩] 50)
    have HO0 := Lib.hid (Only.of_below (b := b) hb)
    have HT0 := Lib.hid (ThreeAt.start w 0 0 ⟨#[]⟩)
    have HR := Lib.hid (show RdS _ B b (l, e) from h.kept hb)
    have HE := Lib.hid he
    have HNU := Lib.hid (show numS (l, e) = (0, (l, e)) by unfold numS; rw [if_pos he])
    have te : ((e : Int) != 0) = true := by rw [bne_iff_ne]; omega
    have hlt := h.lt
    clear h he hb
    go_enter Tryz.func83, Tryz.ntmps83
    go_wp2_with fail
    refine (nums_any B b (l, e) _ HR.out).mono ?_
    rw [HNU.out]
    rintro e1 w1 ⟨rfl, hr1, ho1⟩
    have hT := HT0.out.only ho1 (by omega)
    have hVs : w.heap.size < w1.heap.size := hT.size
    have hb1 := (Below.refl w1.heap.size w1).alloc (Nat.le_refl _) (.cells #[.int .i64 0, .int .i64 0, .string ⟨#[]⟩] 50)
    have K1 := Lib.hid (show Tk w B b w.heap.size w1.heap.size 0 0 ⟨#[]⟩ l e _ from ⟨⟨Nat.le_refl _, by omega, by omega, hlt⟩, hT.kept hb1, ThreeAt.start w1 0 0 ⟨#[]⟩, Rdr.kept hr1 hb1, (HO0.out.trans ho1).trans (Only.ofBelow (b := b) hb1)⟩)
    clear hr1 ho1 hT hb1
    have x0 := K1.out.2.2.1.cell0
    have x1 := K1.out.2.2.1.cell1
    have x2 := K1.out.2.2.1.cell2
    go_wp2_with fail
    refine (vright_any 0 0 ⟨#[]⟩ _ (by decide)).mono ?_
    rintro e2 w7 ⟨rfl, hb7⟩
    have K7 := Lib.hid (K1.out.kept hb7)
    have hrv : Vm.rightV 0 0 (⟨#[]⟩ : ByteArray).data.toList = true := rfl
    clear hb7 x0 x1 x2
    go_wp2_with fail
    refine (err_any B b l e _ K7.out.2.2.2.1).mono ?_
    rintro e3 w' ⟨rfl, rfl⟩
    obtain ⟨q0, q1, q2⟩ := K7.out.2.1.read (0) (0) ⟨#[]⟩
    have HF := Lib.hid (K7.out.answer (0) (0) ⟨#[]⟩)
    have y0 := K7.out.2.1.free 0
    have y1 := K7.out.2.1.free 1
    have y2 := K7.out.2.1.free 2
    have z0 := K7.out.2.1.cell0
    have z1 := K7.out.2.1.cell1
    have z2 := K7.out.2.1.cell2
    clear hrv
    go_wp2
    refine bodyPost_ret (v := .agg #[.int .i64 (0), .int .i64 (0), .string ⟨#[]⟩]) (by simp [results, Tryz.results83, go_sem, q0, q1, q2]) rfl ?_
    rw [HN.out]
    exact ⟨rfl, HF.out.1, HF.out.2⟩

set_option maxRecDepth 100000 in
theorem ons_any (B b : Nat) (s : RS) (w : World) (h : RdS w B b s) : Calls Tryz.prog 84 #[.pointer (some ⟨b, 0, none⟩)] w fun e w' => e = .returned (.bool (onS s).1) ∧ RdS w' B b (onS s).2 ∧ Only b w w' := by
  have HN := Lib.hid (nums_any B b s w h)
  have HO : Hid (onS s = if 1 < (numS s).1 then (false, failS 21 (numS s).2) else ((numS s).1 == 1, (numS s).2)) := Lib.hid rfl
  generalize numS s = q at *
  obtain ⟨n, s1⟩ := q
  dsimp only at *
  clear h
  by_cases hn : 1 < n
  · have HV := Lib.hid (HO.out.trans (if_pos hn))
    have d1 : decide ((1 : Int) < (n : Int)) = true := decide_eq_true (by omega)
    have d2 : ((n : Int) == 1) = false := by rw [beq_eq_false_iff_ne]; omega
    clear HO
    go_enter Tryz.func84, Tryz.ntmps84
    go_wp2_with fail
    refine HN.out.mono ?_
    rintro e w1 ⟨rfl, hr1, ho1⟩
    have HR1 := Lib.hid hr1
    have HO1 := Lib.hid ho1
    clear hr1 ho1
    go_wp2_with fail
    refine (fails_any B b s1 _ HR1.out).mono ?_
    rintro e w2 ⟨rfl, hr2, ho2⟩
    have HR2 := Lib.hid hr2
    have HO2 := Lib.hid (HO1.out.trans ho2)
    clear hr2 ho2
    go_wp2
    go_ret
    rw [HV.out]
    exact ⟨rfl, HR2.out, HO2.out⟩
  · have HV := Lib.hid (HO.out.trans (if_neg hn))
    have d1 : decide ((1 : Int) < (n : Int)) = false := decide_eq_false (by omega)
    have HEQ := Lib.hid (show ((n : Int) == 1) = (n == 1) by
      by_cases e : n = 1
      · subst e; rfl
      · rw [show (n == 1) = false from by rw [beq_eq_false_iff_ne]; exact e, beq_eq_false_iff_ne]; omega)
    clear HO
    go_enter Tryz.func84, Tryz.ntmps84
    go_wp2_with fail
    refine HN.out.mono ?_
    rintro e w1 ⟨rfl, hr1, ho1⟩
    have HR1 := Lib.hid hr1
    have HO1 := Lib.hid ho1
    clear hr1 ho1
    go_wp2
    go_ret
    rw [HV.out]
    exact ⟨ret_b HEQ.out, HR1.out, HO1.out⟩
end Go.Proofs.YthpdphlkmleldaaGreat

namespace Go.Proofs.YthpdphlkmleldaaGreat
open Go.RowKit

section
variable {P : Program}
/-- append of elements of k cells, however many there is room for -/
theorem wpList_append_kL {w : World} {ops : Array Oper} {rest : List Oper} {o : Oper} {a : Act} {Q : Exit → Act → World → Prop} (hgd : o.guard = none) (s x : Operand) (t : TypeId)
    (ho : o.op = .call { callee := .builtin .append, args := #[s, x], argTypes := #[t, t] })
    (base : Nat) (e : TypeId) (i : TypeInfo) (z : Value) (k bytes : Nat) (ht : P.underlying t = some (.slice e)) (hi : P.info? e = some i) (hz : i.zero = some z)
    (hsize : i.size = k) (hk0 : 0 < k) (hby : i.bytes = bytes) (hb1 : bytes ≤ 1000) (hzs : z.cells.size = k)
    (v : Value) (n : Nat) (xs : List Value) (hs : a.eval s = v) (hown : w.ownsRow base e k v n xs)
    (p : Option Addr) (m c : Nat) (us : List Value) (hx : a.eval x = .slice p m c) (hus : us.length = m * k) (hrd : Rd w p us) (hpn : p = none → c = 0) (h1 : ∀ u ∈ us, u.oneCell' = true)
    (hsz : (n + m) * bytes ≤ 211106232532992) (hm : n + m ≤ 9000000000000000000) (hbase : base ≤ w.heap.size)
    (h : ∀ p' c' w', w'.ownsRow base e k (.slice p' (n + m) c') (n + m) (xs ++ us) → w.grownBy w' v.ownBlock → (∀ g, (Value.slice p' (n + m) c').ownBlock = some g → v.ownBlock = some g ∨ w.heap.size ≤ g) → wpList P ops Q rest (a.put o.dst (.slice p' (n + m) c')) w') : wpList P ops Q (o :: rest) a w := by
  refine wpList_plain hgd fun K hK => ?_
  obtain ⟨v', w', hr, h2, h3, h4⟩ := run_append_k (P := P) w base t o.type e i z k bytes ht hi hz hsize hk0 hby (by omega) hzs v n xs hown p m c us hus hrd hpn h1 hsz (by unfold maxLen; omega) hbase
  obtain ⟨p', c', rfl, -⟩ := own_rd h2
  unfold Oper.wp execOp
  simp only [ho, resolve, invoke, builtin, Sem.run_bind, Sem.run_pure, Result.andThen_ok, List.map_toArray, List.map_cons, List.map_nil, hs, hx, hr]
  exact hK _ _ (h p' c' w' h2 h3 h4)
end
theorem oinfo_st : (Tryz.prog.info? 47).map (fun i => (i.zero, i.size, i.bytes)) = some (some (.agg #[.int .i64 0, .int .i64 0]), 2, 16) := by kernel_rfl
theorem rd_st_one (w : World) (x : Qm.St) (E : TypeId) : Rd (w.alloc (.cells #[.int .i64 x.1, .int .i64 x.2] E)) (some ⟨w.heap.size, 0, none⟩) (stCells [x]) := fun _ => ⟨_, 0, rfl, fun i u hu => by
  rw [Nat.zero_add, World.cell?_alloc_at _ _ _ _ rfl]
  rw [← hu]
  simp [stCells]⟩
/-- a row of the call's own, from block B on -/
def OwnP (w : World) (B : Nat) (v : Value) (l : List Qm.St) : Prop := w.ownsRow B 47 2 v l.length (stCells l)
theorem OwnP.below {w w' : World} {B : Nat} {v : Value} {l : List Qm.St} (h : OwnP w B v l) (hb : Below w.heap.size w w') : OwnP w' B v l := World.ownsRow.kept (row := none) h ⟨hb.os, hb.tape, hb.output, hb.size, fun k hk _ => hb.block k hk⟩ (by cases hv : v.ownBlock <;> simp)
theorem OwnP.only {w w' : World} {B b : Nat} {v : Value} {l : List Qm.St} (h : OwnP w B v l) (ho : Only b w w') (hb : b < B) : OwnP w' B v l :=
  World.ownsRow.kept (row := some b) h ho (by
    cases hv : v.ownBlock with
    | none => simp
    | some g => have := (World.ownsRow.lt h g hv).1; simp; omega)
theorem OwnP.grown {w w' : World} {B : Nat} {v : Value} {l : List Qm.St} (h : OwnP w B v l) (hg : w.grownBy w' v.ownBlock) (hB : B ≤ w.heap.size) : Below B w w' :=
  ⟨hg.os, hg.tape, hg.output, hg.size, fun k hk => hg.block k (by omega) (by
    intro e
    have := (World.ownsRow.lt h k e.symm).1
    omega)⟩
theorem OwnP.nil (w : World) (B : Nat) : OwnP w B (.slice none 0 0) [] := World.ownsRow_nil w B 47 2

theorem numR_len {l : List UInt8} {m : Int} (h : (uptoR l m).2.2 = 0) : (uptoR l m).2.1.length + 1 ≤ l.length := by
  unfold uptoR at h ⊢
  have hs := numR_small l 281474976710655
  split
  · next h1 => rw [if_pos h1] at h; exact absurd h h1
  · next h1 =>
    rw [if_neg h1] at h
    have h1' : (numR l 281474976710655).2.2 = 0 := by simpa using h1
    have := hs.2.2 h1'
    split
    · next h2 => rw [if_pos h2] at h; simp at h
    · simp only [List.length_drop]; omega
theorem takeR_len {l : List UInt8} (h : (takeR l).2.2.2 = 0) : (takeR l).2.2.1.length + 1 ≤ l.length := by
  unfold takeR at h ⊢
  split
  · next h1 => rw [if_pos h1] at h; exact absurd h h1
  · next h1 =>
    rw [if_neg h1] at h
    have h1' : (uptoR l 1099511627776).2.2 = 0 := by simpa using h1
    have := numR_len h1'
    have := uptoR_len (uptoR l 1099511627776).2.1 15
    split
    · next h2 => rw [if_pos h2] at h; exact absurd h h2
    · simp only; omega
theorem stS_len {s : RS} (h : (stS s).2.2 = 0) : (stS s).2.1.length + 1 ≤ s.1.length := by
  unfold stS at h ⊢
  split
  · next h1 => rw [if_pos h1] at h; exact absurd h h1
  · next h1 => rw [if_neg h1] at h; exact takeR_len h
theorem numS_len (s : RS) : (numS s).2.1.length ≤ s.1.length := by
  unfold numS
  split
  · exact Nat.le_refl _
  · exact uptoR_len _ _
theorem numS_lt (s : RS) : (numS s).1 < 281474976710656 := by
  unfold numS
  split
  · show (0 : Nat) < 281474976710656
    omega
  · exact uptoR_lt _
theorem lpS_bad {n : Nat} {s : RS} {a : List Qm.St} (h : (stS s).2.2 ≠ 0) : lpS (n + 1) s a = ([], (stS s).2) := by rw [lpS, if_pos h]
theorem lpS_ok {n : Nat} {s : RS} {a : List Qm.St} (h : (stS s).2.2 = 0) : lpS (n + 1) s a = lpS n (stS s).2 (a ++ [(stS s).1]) := by rw [lpS, if_neg (by simp [h])]

theorem Only.then_new {b : Nat} {w x y : World} (h : Only b w x) (k : Below w.heap.size x y) : Only b w y :=
  ⟨k.os.trans h.os, k.tape.trans h.tape, k.output.trans h.output, Nat.le_trans h.size k.size, fun i hi hn => (k.block i hi).trans (h.block i hi hn)⟩
/-- what takePath leaves -/
def TookP (w : World) (B b : Nat) (r : List Qm.St × RS) (e : Ending) (w' : World) : Prop :=
  ∃ p c, e = .returned (.slice p r.1.length c) ∧ OwnP w' w.heap.size (.slice p r.1.length c) r.1 ∧ RdS w' B b r.2 ∧ Only b w w'

set_option maxRecDepth 100000 in
set_option maxHeartbeats 2000000 in
theorem paths_any (B b : Nat) (s : RS) (w : World) (h : RdS w B b s) (hL : s.1.length ≤ 1000000000000 ∨ (numS s).1 ≤ 1000000000000) : Calls Tryz.prog 82 #[.pointer (some ⟨b, 0, none⟩)] w (TookP w B b (paS s)) := by
  obtain ⟨i0, hi, hz0, hz1, hz2⟩ := info_parts oinfo_st
  have HN := Lib.hid (nums_any B b s w h)
  have HP : Hid (paS s = lpS (numS s).1 (numS s).2 []) := Lib.hid rfl
  have hlen := numS_len s
  have hlt := h.lt
  have hn48 := numS_lt s
  clear h
  generalize numS s = q at *
  obtain ⟨n, s1⟩ := q
  dsimp only at *
  go_enter Tryz.func82, Tryz.ntmps82
  go_wp2_with fail
  refine HN.out.mono ?_
  rintro e w1 ⟨rfl, hr1, ho1⟩
  have HR1 := Lib.hid hr1
  have HO1 := Lib.hid ho1
  clear hr1 ho1 HN
  go_wp2
  go_loopw [3, 7] (fun v i wr => ∃ (k : Nat) (a : List Qm.St) (t : RS) (p : Option Addr) (c : Nat), k ≤ n ∧ i = .int .i64 (k : Int) ∧ v = .slice p a.length c ∧ OwnP wr w.heap.size (.slice p a.length c) a ∧ RdS wr B b t ∧ Only b w wr ∧ paS s = lpS (n - k) t a ∧ (a.length + t.1.length ≤ 1000000000000 ∨ a.length = k ∧ n ≤ 1000000000000)) (fun _ i _ => n - (intOf i).toNat)
  case atStart => exact ⟨0, [], s1, none, 0, Nat.zero_le _, rfl, rfl, OwnP.nil _ _, HR1.out, HO1.out, HP.out, hL.elim (fun h => Or.inl (by simp; omega)) (fun h => Or.inr ⟨rfl, h⟩)⟩
  case round =>
    clear HR1 HO1 HP
    obtain ⟨k, a, t, p, c, hk, rfl, rfl, hv, hr, ho, hq, hl⟩ := hrel
    have HV := Lib.hid hv
    have HR := Lib.hid hr
    have HO := Lib.hid ho
    have HQ := Lib.hid hq
    clear hv hr ho hq
    have hsz := HO.out.size
    by_cases hlt2 : k < n
    · have HT := Lib.hid (sts_any B b t wr HR.out)
      have HSL := Lib.hid (fun h => stS_len (s := t) h)
      have HB := Lib.hid (fun (h : (stS t).2.2 ≠ 0) => HQ.out.trans ((congrArg (fun m => lpS m t a) (show n - k = (n - (k + 1)) + 1 by omega)).trans (lpS_bad h)))
      have HK := Lib.hid (fun (h : (stS t).2.2 = 0) => HQ.out.trans ((congrArg (fun m => lpS m t a) (show n - k = (n - (k + 1)) + 1 by omega)).trans (lpS_ok h)))
      clear HQ
      generalize stS t = q at *
      obtain ⟨⟨st, sr⟩, t2⟩ := q
      dsimp only at *
      by_cases he : t2.2 = 0
      · have HF := Lib.hid (HK.out he)
        have hl2 := HSL.out he
        have he2 : ((t2.2 : Int) != 0) = false := by rw [he]; rfl
        clear HK HB HSL
        go_wp2_with fail
        refine HT.out.mono ?_
        rintro e w2 ⟨rfl, hr2, ho2⟩
        have hb2 := (Below.refl w2.heap.size w2).alloc (Nat.le_refl _) (.cells #[.int .i64 st, .int .i64 sr] 47)
        have hv2 := (HV.out.only ho2 hlt).below hb2
        have hs2 := ho2.size
        have hr3 := hr2.kept hb2
        have HO2 := Lib.hid ((HO.out.trans ho2).trans (Only.of_below (b := b) hb2))
        have HR2 := Lib.hid hr3
        have HV2 := Lib.hid hv2
        have c0 := (TwoAt.start w2 st sr).cell0
        have c1 := (TwoAt.start w2 st sr).cell1
        clear hr2 ho2 hv2 hr3 hb2
        go_wp2_with fail
        refine (errs_any B b t2 _ HR2.out).mono ?_
        rintro e w3 ⟨rfl, rfl⟩
        have hw2 : w.heap.size ≤ (w2.alloc (.cells #[.int .i64 st, .int .i64 sr] 47)).heap.size := HO2.out.size
        generalize w2.alloc (.cells #[.int .i64 st, .int .i64 sr] 47) = w3 at *
        have hb3 := (Below.refl w3.heap.size w3).alloc (Nat.le_refl _) (.cells #[.int .i64 st, .int .i64 sr] 47)
        have HV3 := Lib.hid (HV2.out.below hb3)
        have HR3 := Lib.hid (HR2.out.kept hb3)
        have HO3 := Lib.hid (HO2.out.trans (Only.of_below (b := b) hb3))
        have HRD := Lib.hid (rd_st_one w3 (st, sr) 47)
        have hw3 : w.heap.size ≤ (w3.alloc (.cells #[.int .i64 st, .int .i64 sr] 47)).heap.size := HO3.out.size
        clear hb3
        go_wp2_with (at_builtin; refine wpList_append_kL rfl _ _ 48 rfl w.heap.size 47 i0 _ 2 16 Tryz.underlying48 hi hz0 hz1 (by omega) hz2 (by omega) rfl _ a.length (stCells a) rfl HV3.out _ 1 1 (stCells [(st, sr)]) rfl rfl HRD.out (fun h => by cases h) stCells_one (by omega) (by omega) hw3 ?_)
        intro p' c' w4 hown hgrow _
        have hb4 := HV3.out.grown hgrow hw3
        have HV4 := Lib.hid (show OwnP w4 w.heap.size (.slice p' (a ++ [(st, sr)]).length c') (a ++ [(st, sr)]) by
          unfold OwnP
          rw [stCells_append, List.length_append]
          exact hown)
        have HR4 := Lib.hid (HR3.out.under hb4 hlt)
        have HO4 := Lib.hid (HO3.out.then_new hb4)
        clear hown hgrow hb4
        go_wp2
        go_roundw
        case rel => exact ⟨k + 1, a ++ [(st, sr)], t2, p', c', by omega, by go_num, by simp, HV4.out, HR4.out, HO4.out, HF.out, hl.elim (fun h => Or.inl (by simp; omega)) (fun h => Or.inr ⟨by simp; omega, h.2⟩)⟩
        case measure => simp [intOf]; omega
      · have HF := Lib.hid (HB.out he)
        have he2 : ((t2.2 : Int) != 0) = true := by rw [bne_iff_ne]; omega
        clear HK HB HSL he
        go_wp2_with fail
        refine HT.out.mono ?_
        rintro e w2 ⟨rfl, hr2, ho2⟩
        have hb2 := (Below.refl w2.heap.size w2).alloc (Nat.le_refl _) (.cells #[.int .i64 st, .int .i64 sr] 47)
        have HO2 := Lib.hid ((HO.out.trans ho2).trans (Only.of_below (b := b) hb2))
        have HR2 := Lib.hid (hr2.kept hb2)
        clear hr2 ho2 hb2
        go_wp2_with fail
        refine (errs_any B b t2 _ HR2.out).mono ?_
        rintro e w3 ⟨rfl, rfl⟩
        go_wp2
        go_ret
        refine ⟨none, 0, ?_, ?_, ?_, HO2.out⟩
        · rw [HF.out]; rfl
        · rw [HF.out]; exact OwnP.nil _ _
        · rw [HF.out]; exact HR2.out
    · obtain rfl : k = n := by omega
      have HF := Lib.hid (HQ.out.trans (show lpS (k - k) t a = (a, t) by rw [Nat.sub_self]; rfl))
      clear HQ
      go_wp2
      go_ret
      refine ⟨p, c, ?_, ?_, ?_, HO.out⟩
      · rw [HF.out]; rfl
      · rw [HF.out]; exact HV.out
      · rw [HF.out]; exact HR.out
end Go.Proofs.YthpdphlkmleldaaGreat
