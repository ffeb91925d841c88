/-
  TAKE: a batch is read.
  Conditions: at most 10^12 bytes are left, or the bytes begin with a batch that may be.
  OPEN, of as many bytes as a slice that is appended to may have.
  No conditions but sizes.
  UNFRAME: a framed batch is read.
  No conditions but sizes.
-/
import Derived.Test.YthpdphlkmleldaaGreatGH
import Derived.Test.YthpdphlkmleldaaGreatOTake
import Derived.Test.YthpdphlkmleldaaGreatGB
namespace Go.Proofs.YthpdphlkmleldaaGreat
open Go.RowKit

theorem uptos_any (B b : Nat) (m : Int) (s : RS) (w : World) (h : RdS w B b s) : Calls Tryz.prog 48 #[.pointer (some ⟨b, 0, none⟩), .int .i64 m] w fun e w' => e = .returned (.int .i64 ((uptoS m s).1 : Nat)) ∧ RdS w' B b (uptoS m s).2 ∧ Only b w w' := by
  obtain ⟨l, e⟩ := s
  by_cases he : e = 0
  · subst he
    have : uptoS m (l, 0) = uptoR l m := by unfold uptoS; rw [if_neg (by simp)]
    rw [this]
    exact upto_any B b l m w h
  · have : uptoS m (l, e) = (0, (l, e)) := by unfold uptoS; rw [if_pos he]
    rw [this]
    refine (upto_bad B b l e m w h he).mono ?_
    rintro e w' ⟨rfl, rfl⟩
    exact ⟨rfl, h, Only.refl _ _⟩
theorem uptoS_le (m : Nat) (s : RS) : (uptoS m s).1 ≤ m := by
  unfold uptoS
  split
  · exact Nat.zero_le _
  · unfold uptoR
    split
    · exact Nat.zero_le _
    · split
      · exact Nat.zero_le _
      · simp only; omega
theorem uptoS_zero {m : Int} {s : RS} (h : (uptoS m s).2.2 ≠ 0) : (uptoS m s).1 = 0 := by
  unfold uptoS at h ⊢
  split
  · rfl
  · next h1 =>
    rw [if_neg h1] at h
    unfold uptoR at h ⊢
    split
    · rfl
    · next h2 =>
      rw [if_neg h2] at h
      split
      · rfl
      · next h3 => rw [if_neg h3] at h; simp at h
theorem uptoS_len (m : Int) (s : RS) : (uptoS m s).2.1.length ≤ s.1.length := by
  unfold uptoS
  split
  · exact Nat.le_refl _
  · exact uptoR_len _ _
theorem takeO_stick {s : RS} (h : (takeO s).2.2 = 0) : s.2 = 0 := by
  apply Classical.byContradiction
  intro he
  have hn : numS s = (0, s) := by unfold numS; rw [if_pos he]
  have : takeO s = (Opp.zero, failS 21 s) := by
    unfold takeO
    rw [hn]
    exact endO_no rfl
  rw [this] at h
  exact absurd h (failS_ne s)
theorem takeO_len {s : RS} (h : (takeO s).2.2 = 0) : (takeO s).2.1.length ≤ s.1.length := by
  have h0 := takeO_stick h
  obtain ⟨l, e⟩ := s
  simp only at h0
  subst h0
  have h1 := congrArg List.length (takeO_form h).2
  rw [List.length_append] at h1
  simp only
  omega
theorem right_szB {x : Opp} (h : rightO x = true) : Sz x := by
  obtain ⟨k1, k6⟩ := rightO_kind h
  have hc : x.k = 1 ∨ x.k = 2 ∨ x.k = 3 ∨ x.k = 4 ∨ x.k = 5 ∨ x.k = 6 := by omega
  have v0 : ∀ {k n : Int} {t : ByteArray}, Vm.rightV k n t.data.toList = true → t.size ≤ 64 := by
    intro k n t hv
    rcases right_kind hv with e | e | e | e | e
    all_goals first | (have := right_empty hv (by omega); have h2 := str_len t; rw [this] at h2; simp at h2; omega) | skip
    rw [e] at hv
    have := (right_text hv).2
    rw [str_len] at this
    exact this
  rcases hc with hk | hk | hk | hk | hk | hk
  · obtain ⟨-, e2, e3⟩ := right1 h hk
    have := key_small e2
    rw [e3]; exact ⟨by simp only; omega, Nat.zero_le _, Nat.zero_le _⟩
  · obtain ⟨-, -, e2, e3⟩ := right2 h hk
    have := key_small e2
    rw [e3]; exact ⟨by simp only; omega, Nat.zero_le _, Nat.zero_le _⟩
  · obtain ⟨-, e1, e3⟩ := right3 h hk
    have := v0 (right8_facts e1).2.2
    rw [e3]; exact ⟨Nat.zero_le _, by simp only; omega, Nat.zero_le _⟩
  · obtain ⟨-, e3⟩ := right4 h hk
    rw [e3]; exact ⟨Nat.zero_le _, Nat.zero_le _, Nat.zero_le _⟩
  · obtain ⟨-, -, e3⟩ := right5 h hk
    rw [e3]; exact ⟨Nat.zero_le _, Nat.zero_le _, Nat.zero_le _⟩
  · obtain ⟨-, e1, e2, e3⟩ := right6 h hk
    have := v0 (right8_facts e2).2.2
    have := (okPath_small e1).2.1
    rw [e3]; exact ⟨Nat.zero_le _, by simp only; omega, by simp only; omega⟩
theorem opsS_bad {n : Nat} {s : RS} {a : List Opp} (h : (takeO s).2.2 ≠ 0) : opsS (n + 1) s a = ([], (takeO s).2) := by rw [opsS, if_pos h]
theorem opsS_ok {n : Nat} {s : RS} {a : List Opp} (h : (takeO s).2.2 = 0) : opsS (n + 1) s a = opsS n (takeO s).2 (a ++ [(takeO s).1]) := by rw [opsS, if_neg (by simp [h])]

/-- n ops more, of at most 10^12 bytes, or of ops that may be -/
def LimB (m : Nat) (t : RS) : Prop := t.1.length ≤ 1000000000000 ∨ ∃ rest more, (∀ y, y ∈ rest → rightO y = true) ∧ rest.length = m ∧ t = (opsB rest ++ more, 0)
theorem lim_good {y : Opp} (h : rightO y = true) (more : List UInt8) : Lim (opB y ++ more, 0) := by
  obtain ⟨k1, k6⟩ := rightO_kind h
  have e0 : numS (opB y ++ more, 0) = (y.k.toNat, (tailB y ++ more, 0)) := by
    unfold opB
    rw [List.append_assoc, numS_back (by omega)]
  by_cases hk : y.k = 6
  · obtain ⟨f1, e1, -⟩ := right6 h hk
    have h8 := (okPath_small e1).2.1
    refine Or.inr (Or.inr ?_)
    rw [e0]
    have e2 : tailB y ++ more = stB y.nt y.nr ++ (Wm.numB y.path.length ++ (paB y.path ++ (Wm.numB y.p.toNat ++ (vlB y.vk y.vn y.vt ++ more)))) := by
      unfold tailB
      rw [if_neg (by omega), if_neg (by omega), if_neg (by omega), if_neg (by omega), if_neg (by omega)]
      simp only [List.append_assoc]
    simp only
    rw [e2, stS_back f1, numS_back (by omega)]
    simp only
    omega
  · refine Or.inr (Or.inl ?_)
    rw [e0]
    simp only
    omega
theorem LimB.parts {m : Nat} {t : RS} (h : LimB m t) (hm : 0 < m) : Lim t ∧ ((takeO t).2.2 = 0 → LimB (m - 1) (takeO t).2) := by
  rcases h with h | ⟨rest, more, h1, h2, rfl⟩
  · exact ⟨Or.inl h, fun he => Or.inl (Nat.le_trans (takeO_len he) h)⟩
  · cases rest with
    | nil => simp at h2; omega
    | cons y rest =>
      have e : opsB (y :: rest) ++ more = opB y ++ (opsB rest ++ more) := by simp [opsB]
      have hy := h1 y List.mem_cons_self
      rw [e]
      refine ⟨lim_good hy _, fun _ => Or.inr ⟨rest, more, fun z hz => h1 z (List.mem_cons_of_mem _ hz), by simp at h2; omega, ?_⟩⟩
      rw [takeO_back hy]
/-- behind a batch's head -/
theorem head_back {x : Bat} (h : rightT x = true) (more : List UInt8) : uptoS 64 (numS (uptoS 512 (uptoS 15 (batB x ++ more, 0)).2).2).2 = (x.ops.length, (opsB x.ops ++ more, 0)) := by
  obtain ⟨h1, h2, h3, h4, h5⟩ := rightT_iff.1 h
  unfold batB
  rw [List.append_assoc, uptoS_back (by omega) (by omega)]
  dsimp only
  rw [List.append_assoc, uptoS_back (by omega) (by omega)]
  dsimp only
  rw [List.append_assoc, numS_back (by omega)]
  dsimp only
  rw [List.append_assoc, uptoS_back (by omega) (by omega)]
theorem head_lim {s : RS} (hL : s.1.length ≤ 1000000000000 ∨ ∃ x more, rightT x = true ∧ s = (batB x ++ more, 0)) : LimB (uptoS 64 (numS (uptoS 512 (uptoS 15 s).2).2).2).1 (uptoS 64 (numS (uptoS 512 (uptoS 15 s).2).2).2).2 := by
  rcases hL with h | ⟨x, more, hr, rfl⟩
  · exact Or.inl (Nat.le_trans (uptoS_len _ _) (Nat.le_trans (numS_len _) (Nat.le_trans (uptoS_len _ _) (Nat.le_trans (uptoS_len _ _) h))))
  · rw [head_back hr]
    exact Or.inr ⟨x.ops, more, (rightT_iff.1 hr).2.2.2.2, rfl, rfl⟩

/-- what Take carries: the result's block R0, the batch's R1; the reader -/
structure TkB (w0 : World) (B b R0 R1 : Nat) (x : Bat) (l : List En) (p : Option Addr) (c : Nat) (s : RS) (w : World) : Prop where
  hR0 : w0.heap.size ≤ R0
  hR1 : R0 < R1
  hb : b < w0.heap.size
  res : AgAt w R0 (btA Bat.zero none 0)
  row : Grow R1 x l p c w
  rd : RdS w B b s
  only : Only b w0 w
theorem TkB.kept {w0 w w' : World} {B b R0 R1 : Nat} {x : Bat} {l : List En} {p : Option Addr} {c : Nat} {s : RS} (h : TkB w0 B b R0 R1 x l p c s w) (hb : Below w.heap.size w w') : TkB w0 B b R0 R1 x l p c s w' :=
  { h with res := h.res.kept hb, row := h.row.kept hb, rd := h.rd.kept hb, only := h.only.trans (Only.of_below hb) }
theorem TkB.read {w0 w w' : World} {B b R0 R1 : Nat} {x : Bat} {l : List En} {p : Option Addr} {c : Nat} {s s' : RS} (h : TkB w0 B b R0 R1 x l p c s w) (hr : RdS w' B b s') (ho : Only b w w') : TkB w0 B b R0 R1 x l p c s' w' := by
  have h1 := h.hR0; have h2 := h.hR1; have h3 := h.hb
  exact { h with res := h.res.only ho (by omega), row := h.row.only ho (by omega), rd := hr, only := h.only.trans ho }
theorem TkB.put {w0 w w' : World} {B b R0 R1 : Nat} {x y : Bat} {l l' : List En} {p p' : Option Addr} {c c' : Nat} {s : RS} (h : TkB w0 B b R0 R1 x l p c s w) (hg : Grow R1 y l' p' c' w') (hb : Below R1 w w') : TkB w0 B b R0 R1 y l' p' c' s w' := by
  have h1 := h.hR0; have h2 := h.hR1; have h3 := h.hb
  have hs := h.only.size
  have hl := AgAt.lt h.res
  exact { h with res := h.res.below hb (by omega), row := hg, rd := h.rd.under hb (by omega), only := h.only.then_new (hb.mono (by omega)) }
/-- what Take leaves -/
def TookT (w : World) (B b : Nat) (r : Bat × RS) (e : Ending) (w' : World) : Prop :=
  ∃ p c, e = .returned (.agg (btA r.1 p c)) ∧ BopsN w.heap.size w' r.1 p c ∧ RdS w' B b r.2 ∧ Only b w w'
theorem endB_err {q : Bat × RS} (h : q.2.2 ≠ 0) : endB q = (Bat.zero, failS 21 q.2) := by
  unfold endB failS
  rw [if_pos h, if_neg h]
theorem endB_ok {q : Bat × RS} (he : q.2.2 = 0) (h : rightT q.1 = true) : endB q = q := by unfold endB; rw [if_neg (by simp [he]), if_pos h]
theorem endB_no {q : Bat × RS} (he : q.2.2 = 0) (h : rightT q.1 = false) : endB q = (Bat.zero, failS 21 q.2) := by unfold endB; rw [if_neg (by simp [he]), if_neg (by simp [h])]
theorem rawT_eq {s : RS} : rawT s = (⟨(uptoS 15 s).1, (uptoS 512 (uptoS 15 s).2).1, (numS (uptoS 512 (uptoS 15 s).2).2).1, (opsS (uptoS 64 (numS (uptoS 512 (uptoS 15 s).2).2).2).1 (uptoS 64 (numS (uptoS 512 (uptoS 15 s).2).2).2).2 []).1⟩, (opsS (uptoS 64 (numS (uptoS 512 (uptoS 15 s).2).2).2).1 (uptoS 64 (numS (uptoS 512 (uptoS 15 s).2).2).2).2 []).2) := rfl

set_option maxRecDepth 100000 in
set_option maxHeartbeats 8000000 in
theorem btake_any (B b : Nat) (s : RS) (w : World) (h : RdS w B b s) (hL : s.1.length ≤ 1000000000000 ∨ ∃ x more, rightT x = true ∧ s = (batB x ++ more, 0)) : Calls Tryz.prog 26 #[.pointer (some ⟨b, 0, none⟩)] w (TookT w B b (takeT s)) := by
  obtain ⟨i0, hi, hz0, hz1, hz2⟩ := info_parts oinfo_op
  have HT0 := Lib.hid (show takeT s = endB (rawT s) from rfl)
  rw [rawT_eq] at HT0
  have HLB := Lib.hid (head_lim hL)
  clear hL
  have HU1 := Lib.hid (fun W (hr : RdS W B b s) => uptos_any B b 15 s W hr)
  generalize uptoS 15 s = u1 at *
  obtain ⟨n1, s1⟩ := u1
  have HU2 := Lib.hid (fun W (hr : RdS W B b s1) => uptos_any B b 512 s1 W hr)
  dsimp only at *
  generalize uptoS 512 s1 = u2 at *
  obtain ⟨n2, s2⟩ := u2
  have HU3 := Lib.hid (fun W (hr : RdS W B b s2) => nums_any B b s2 W hr)
  dsimp only at *
  generalize numS s2 = u3 at *
  obtain ⟨n3, s3⟩ := u3
  have n64 : (uptoS 64 s3).1 ≤ 64 := uptoS_le 64 s3
  have HZR := Lib.hid (fun hh => uptoS_zero (m := 64) (s := s3) hh)
  have HU4 := Lib.hid (fun W (hr : RdS W B b s3) => uptos_any B b 64 s3 W hr)
  dsimp only at *
  generalize uptoS 64 s3 = u4 at *
  obtain ⟨n, s4⟩ := u4
  dsimp only at *
  have hlt := h.lt
  have hb0 := (Below.refl w.heap.size w).alloc (Nat.le_refl _) (.cells #[.int .i64 0, .int .i64 0, .int .i64 0, .slice none 0 0] 34)
  have HRES := Lib.hid (show AgAt (w.alloc (.cells #[.int .i64 0, .int .i64 0, .int .i64 0, .slice none 0 0] 34)) w.heap.size (btA Bat.zero none 0) from AgAt.new w (btA Bat.zero none 0) 34)
  have HR0 := Lib.hid (h.kept hb0)
  have HO0 := Lib.hid (Only.of_below (b := b) hb0)
  clear h hb0
  go_enter Tryz.func26, Tryz.ntmps26
  go_wp2
  refine wp_scope_fwd 0 rfl ?_
  go_wp2_with fail
  refine (HU1.out _ HR0.out).mono ?_
  rintro e wa ⟨rfl, hra, hoa⟩
  have HRa := Lib.hid hra
  have HOa := Lib.hid (HO0.out.trans hoa)
  have HREa := Lib.hid (HRES.out.only hoa (by omega))
  clear hra hoa
  go_wp2_with fail
  refine (HU2.out _ HRa.out).mono ?_
  rintro e wb ⟨rfl, hrb, hob⟩
  have HRb := Lib.hid hrb
  have HOb := Lib.hid (HOa.out.trans hob)
  have HREb := Lib.hid (HREa.out.only hob (by omega))
  clear hrb hob
  go_wp2_with fail
  refine (HU3.out _ HRb.out).mono ?_
  rintro e wc ⟨rfl, hrc, hoc⟩
  have HX := Lib.hid (AgAt.new wc #[.int .i64 (n1 : Int), .int .i64 (n2 : Int), .int .i64 (n3 : Int), .slice none 0 0] 34)
  have T := Lib.hid (show TkB w B b w.heap.size wc.heap.size ⟨n1, n2, n3, []⟩ [] none 0 s3 (wc.alloc (.cells #[.int .i64 (n1 : Int), .int .i64 (n2 : Int), .int .i64 (n3 : Int), .slice none 0 0] 34)) from by
    have hre := HREb.out.only hoc (by omega)
    have hb1 := (Below.refl wc.heap.size wc).alloc (Nat.le_refl _) (.cells #[.int .i64 (n1 : Int), .int .i64 (n2 : Int), .int .i64 (n3 : Int), .slice none 0 0] 34)
    exact ⟨Nat.le_refl _, hre.lt, hlt, hre.kept hb1, Grow.start HX.out, hrc.kept hb1, (HOb.out.trans hoc).trans (Only.of_below hb1)⟩)
  clear hrc hoc HX HRa HOa HREa HRb HOb HREb HR0 HO0 HRES HU1 HU2 HU3
  go_wp2_with fail
  refine (HU4.out _ T.out.rd).mono ?_
  rintro e wd ⟨rfl, hrd, hod⟩
  replace T := Lib.hid (T.out.read hrd hod)
  clear hrd hod HU4
  go_wp2
  go_loopw [13] (fun i wr => ∃ (k : Nat) (acc : List Opp) (l : List En) (t : RS) (p : Option Addr) (c : Nat), k ≤ n ∧ i = .int .i64 (k : Int) ∧ TkB w B b w.heap.size wc.heap.size ⟨n1, n2, n3, acc⟩ l p c t wr ∧ opsS n s4 [] = opsS (n - k) t acc ∧ LimB (n - k) t ∧ acc.length = k ∧ (∀ y, y ∈ acc → rightO y = true) ∧ (k < n → t.2 = 0)) (fun i _ => n - (intOf i).toNat)
  case atStart => exact ⟨0, [], [], s4, none, 0, Nat.zero_le _, rfl, T.out, rfl, HLB.out, rfl, fun _ h => (by cases h), fun hk => Classical.byContradiction fun h => by have := HZR.out h; omega⟩
  case round =>
    clear T
    obtain ⟨k, acc, l, t, p, c, hk, rfl, ht, hq, htl, hal, har, ht0⟩ := hrel
    have T := Lib.hid ht
    have HQ := Lib.hid hq
    have HAL := Lib.hid hal
    have HAR := Lib.hid har
    clear ht hq hal har
    by_cases hlt2 : k < n
    · have HT := Lib.hid (fun W hr => otakeL_any B b t W hr (htl.parts (by omega)).1)
      have HTL := Lib.hid (fun h => (htl.parts (by omega)).2 h)
      clear htl
      have HTO := Lib.hid (fun h => (takeO_ok (s := t) h).1)
      have HBAD := Lib.hid (fun (h : (takeO t).2.2 ≠ 0) => HQ.out.trans ((congrArg (fun m => opsS m t acc) (show n - k = (n - (k + 1)) + 1 by omega)).trans (opsS_bad h)))
      have HOK := Lib.hid (fun (h : (takeO t).2.2 = 0) => HQ.out.trans ((congrArg (fun m => opsS m t acc) (show n - k = (n - (k + 1)) + 1 by omega)).trans (opsS_ok h)))
      clear HQ ht0
      generalize takeO t = q at *
      obtain ⟨y, t2⟩ := q
      dsimp only at *
      replace T := Lib.hid (T.out.kept (Below.drew (Below.refl _ _)))
      go_wp2
      refine wp_region_held_drew (S := fun _ => True) (by kernel_rfl) trivial (fun hS => ?_)
      generalize wr.drew = w0 at *
      refine wpAnyH_take (i := 0) (v := ?_) rfl (by kernel_rfl) (by kernel_rfl) (by kernel_rfl) (fun _ _ _ h => h) (Or.inl ⟨by kernel_rfl, ?_⟩) hS ?_
      rotate_left
      · intro W hSW
        go_simp
        all_goals with_reducible rfl
      refine wpAnyH_take (i := 2) (v := ?_) rfl (by kernel_rfl) (by kernel_rfl) (by kernel_rfl) (fun _ _ _ h => h) (Or.inl ⟨by kernel_rfl, ?_⟩) hS ?_
      rotate_left
      · intro W hSW
        go_simp
        all_goals with_reducible rfl
      go_simp
      refine wpAnyH_ready (rs := [1, 3]) (by kernel_rfl) (by simp) ?_
      refine AllReadyH.cons rfl (fun K hK => ?_) (AllReadyH.cons rfl (fun K hK => ?_) AllReadyH.nil)
      · have x3 := (BtAt.cells T.out.row.at_).2.2.2
        dsimp only at x3
        go_simp
        refine hK.out _ _ trivial (fun hS => ?_)
        clear hK K x3
        refine wpAnyH_ready (rs := [3]) (by kernel_rfl) (by simp) ?_
        refine AllReadyH.cons rfl (fun K hK => ?_) AllReadyH.nil
        go_simp
        go_wp2_with ((go_at_call 50; refine (HT.out _ T.out.rd).mono ?_; rintro e w2 ⟨q2, c2, rfl, hp2, hr2, ho2, hn2⟩))
        have HN2 := Lib.hid (show Far wc.heap.size (Value.slice p acc.length c) y q2 from fun _ a ha => by
          have h1 := hn2 a ha
          have h2 := AgAt.lt T.out.row.at_
          refine ⟨by omega, fun hh => ?_⟩
          have := (World.ownsRow.lt T.out.row.own a.block hh).2
          omega)
        replace T := Lib.hid (T.out.read hr2 ho2)
        have HP2 := Lib.hid hp2
        clear hr2 ho2 hn2 hp2
        refine hK.out _ _ trivial (fun hS => ?_)
        clear hK K
        refine wpAnyH_ready (rs := [4]) (by kernel_rfl) (by simp) ?_
        refine AllReadyH.cons rfl (fun K hK => ?_) AllReadyH.nil
        have hb3 := (Below.refl w2.heap.size w2).alloc (Nat.le_refl _) (.cells (opA y q2 c2) 53)
        replace T := Lib.hid (T.out.kept hb3)
        have HP3 := Lib.hid (HP2.out.kept hb3)
        have HRW := Lib.hid (rd_op_one w2 y q2 c2 53)
        clear hb3
        refine step_build_op (by kernel_rfl) _ rfl y q2 c2 rfl ?_
        refine hK.out _ _ trivial (fun hS => ?_)
        clear hK K
        generalize w2.alloc (.cells (opA y q2 c2) 53) = w3 at *
        refine wpAnyH_ready (rs := [5]) (by kernel_rfl) (by simp) ?_
        refine AllReadyH.cons rfl (fun K hK => ?_) AllReadyH.nil
        refine step_append_kN (by kernel_rfl) _ _ 32 rfl (wc.heap.size + 1) 53 i0 _ 12 128 Tryz.underlying32 hi hz0 hz1 (by decide) hz2 (by decide) rfl _ acc.length (enCells l) rfl T.out.row.own _ 1 1 (opL y q2 c2) rfl rfl HRW.out (fun h => by cases h) (opL_one y q2 c2) (by have := HAL.out; omega) (by have := AgAt.lt T.out.row.at_; omega) ?_
        intro p4 c4 w4 ho4 hg4 hw4
        have HG := Lib.hid (T.out.row.grown HP3.out HN2.out ho4 hg4 hw4)
        clear ho4 hg4 hw4
        refine hK.out _ _ trivial (fun hS => ?_)
        clear hK K
        refine wpAnyH_take (i := 6) (v := ?_) rfl (by kernel_rfl) (by kernel_rfl) (by kernel_rfl) (fun _ _ _ h => h) (Or.inl ⟨by kernel_rfl, ?_⟩) hS ?_
        rotate_left
        · intro W hSW
          go_simp
          all_goals with_reducible rfl
        go_simp
        refine wpAnyH_ready (rs := [7]) (by kernel_rfl) (by simp) ?_
        refine AllReadyH.cons rfl (fun K hK => ?_) AllReadyH.nil
        have y3 := (BtAt.cells HG.out.2.2).2.2.2
        have yf := AgAt.free HG.out.2.2 3
        dsimp only at y3
        go_simp
        refine hK.out _ _ trivial (fun hS => ?_)
        clear hK K y3 yf
        refine wpAnyH_done (by kernel_rfl) ?_ _
        go_simp
        replace T := Lib.hid (T.out.put HG.out.1 HG.out.2.1)
        generalize w4.setCell ⟨wc.heap.size, 3, none⟩ (.slice p4 (acc.length + 1) c4) = w5 at *
        clear HG HP3 HRW
        by_cases he : t2.2 = 0
        · have HF := Lib.hid (HOK.out he)
          have hl2 := HTL.out he
          have HAR2 := Lib.hid (show ∀ z, z ∈ acc ++ [y] → rightO z = true from fun z hz => (List.mem_append.1 hz).elim (fun h => HAR.out z h) (fun h => by rw [List.mem_singleton.1 h]; exact HTO.out he))
          have he2 : ((t2.2 : Int) != 0) = false := by rw [he]; rfl
          go_wp2_with fail
          refine (errs_any B b t2 _ T.out.rd).mono ?_
          rintro e w6 ⟨rfl, rfl⟩
          go_wp2
          go_roundw
          case rel => exact ⟨k + 1, acc ++ [y], _, t2, _, _, by omega, by go_num, T.out, HF.out, hl2, by rw [List.length_append, HAL.out]; rfl, HAR2.out, fun _ => he⟩
          case measure => simp [intOf]; omega
        · have HF := Lib.hid (HBAD.out he)
          have he2 : ((t2.2 : Int) != 0) = true := by rw [bne_iff_ne]; omega
          rw [HF.out] at HT0
          have HE := Lib.hid (HT0.out.trans (endB_err (q := (⟨n1, n2, n3, []⟩, t2)) he))
          go_wp2_with fail
          refine (errs_any B b t2 _ T.out.rd).mono ?_
          rintro e w6 ⟨rfl, rfl⟩
          go_wp2
          go_step3
          refine fwd_goto ?_
          go_wp2_with fail
          refine (fails_any B b t2 _ T.out.rd).mono ?_
          rintro e wx ⟨rfl, hrx, hox⟩
          replace T := Lib.hid (T.out.read hrx hox)
          clear hrx hox
          go_wp2_with (refine wpList_store_ag btP rfl _ _ rfl _ rfl _ T.out.res (A := btA Bat.zero none 0) rfl rfl rfl (btA_one _ _ _) ?_; intro wy hvy hko hsz hbn)
          rw [Exit.noGoto_ret]
          refine bodyPost_ret (results_ag btP _ rfl rfl hvy rfl) rfl ?_
          rw [HE.out]
          have h3 := T.out.hb
          have hbl := hbn _ _ (Below.refl w.heap.size wx) (Nat.le_refl _)
          exact ⟨none, 0, rfl, BopsN.zero _ _, T.out.rd.under hbl h3, T.out.only.then_new hbl⟩
      · go_simp
        go_wp2_with ((go_at_call 50; refine (HT.out _ T.out.rd).mono ?_; rintro e w2 ⟨q2, c2, rfl, hp2, hr2, ho2, hn2⟩))
        have HN2 := Lib.hid (show Far wc.heap.size (Value.slice p acc.length c) y q2 from fun _ a ha => by
          have h1 := hn2 a ha
          have h2 := AgAt.lt T.out.row.at_
          refine ⟨by omega, fun hh => ?_⟩
          have := (World.ownsRow.lt T.out.row.own a.block hh).2
          omega)
        replace T := Lib.hid (T.out.read hr2 ho2)
        have HP2 := Lib.hid hp2
        clear hr2 ho2 hn2 hp2
        refine hK.out _ _ trivial (fun hS => ?_)
        clear hK K
        refine wpAnyH_ready (rs := [1, 4]) (by kernel_rfl) (by simp) ?_
        refine AllReadyH.cons rfl (fun K hK => ?_) (AllReadyH.cons rfl (fun K hK => ?_) AllReadyH.nil)
        · have x3 := (BtAt.cells T.out.row.at_).2.2.2
          dsimp only at x3
          go_simp
          refine hK.out _ _ trivial (fun hS => ?_)
          clear hK K x3
          refine wpAnyH_ready (rs := [4]) (by kernel_rfl) (by simp) ?_
          refine AllReadyH.cons rfl (fun K hK => ?_) AllReadyH.nil
          have hb3 := (Below.refl w2.heap.size w2).alloc (Nat.le_refl _) (.cells (opA y q2 c2) 53)
          replace T := Lib.hid (T.out.kept hb3)
          have HP3 := Lib.hid (HP2.out.kept hb3)
          have HRW := Lib.hid (rd_op_one w2 y q2 c2 53)
          clear hb3
          refine step_build_op (by kernel_rfl) _ rfl y q2 c2 rfl ?_
          refine hK.out _ _ trivial (fun hS => ?_)
          clear hK K
          generalize w2.alloc (.cells (opA y q2 c2) 53) = w3 at *
          refine wpAnyH_ready (rs := [5]) (by kernel_rfl) (by simp) ?_
          refine AllReadyH.cons rfl (fun K hK => ?_) AllReadyH.nil
          refine step_append_kN (by kernel_rfl) _ _ 32 rfl (wc.heap.size + 1) 53 i0 _ 12 128 Tryz.underlying32 hi hz0 hz1 (by decide) hz2 (by decide) rfl _ acc.length (enCells l) rfl T.out.row.own _ 1 1 (opL y q2 c2) rfl rfl HRW.out (fun h => by cases h) (opL_one y q2 c2) (by have := HAL.out; omega) (by have := AgAt.lt T.out.row.at_; omega) ?_
          intro p4 c4 w4 ho4 hg4 hw4
          have HG := Lib.hid (T.out.row.grown HP3.out HN2.out ho4 hg4 hw4)
          clear ho4 hg4 hw4
          refine hK.out _ _ trivial (fun hS => ?_)
          clear hK K
          refine wpAnyH_take (i := 6) (v := ?_) rfl (by kernel_rfl) (by kernel_rfl) (by kernel_rfl) (fun _ _ _ h => h) (Or.inl ⟨by kernel_rfl, ?_⟩) hS ?_
          rotate_left
          · intro W hSW
            go_simp
            all_goals with_reducible rfl
          go_simp
          refine wpAnyH_ready (rs := [7]) (by kernel_rfl) (by simp) ?_
          refine AllReadyH.cons rfl (fun K hK => ?_) AllReadyH.nil
          have y3 := (BtAt.cells HG.out.2.2).2.2.2
          have yf := AgAt.free HG.out.2.2 3
          dsimp only at y3
          go_simp
          refine hK.out _ _ trivial (fun hS => ?_)
          clear hK K y3 yf
          refine wpAnyH_done (by kernel_rfl) ?_ _
          go_simp
          replace T := Lib.hid (T.out.put HG.out.1 HG.out.2.1)
          generalize w4.setCell ⟨wc.heap.size, 3, none⟩ (.slice p4 (acc.length + 1) c4) = w5 at *
          clear HG HP3 HRW
          by_cases he : t2.2 = 0
          · have HF := Lib.hid (HOK.out he)
            have hl2 := HTL.out he
            have HAR2 := Lib.hid (show ∀ z, z ∈ acc ++ [y] → rightO z = true from fun z hz => (List.mem_append.1 hz).elim (fun h => HAR.out z h) (fun h => by rw [List.mem_singleton.1 h]; exact HTO.out he))
            have he2 : ((t2.2 : Int) != 0) = false := by rw [he]; rfl
            go_wp2_with fail
            refine (errs_any B b t2 _ T.out.rd).mono ?_
            rintro e w6 ⟨rfl, rfl⟩
            go_wp2
            go_roundw
            case rel => exact ⟨k + 1, acc ++ [y], _, t2, _, _, by omega, by go_num, T.out, HF.out, hl2, by rw [List.length_append, HAL.out]; rfl, HAR2.out, fun _ => he⟩
            case measure => simp [intOf]; omega
          · have HF := Lib.hid (HBAD.out he)
            have he2 : ((t2.2 : Int) != 0) = true := by rw [bne_iff_ne]; omega
            rw [HF.out] at HT0
            have HE := Lib.hid (HT0.out.trans (endB_err (q := (⟨n1, n2, n3, []⟩, t2)) he))
            go_wp2_with fail
            refine (errs_any B b t2 _ T.out.rd).mono ?_
            rintro e w6 ⟨rfl, rfl⟩
            go_wp2
            go_step3
            refine fwd_goto ?_
            go_wp2_with fail
            refine (fails_any B b t2 _ T.out.rd).mono ?_
            rintro e wx ⟨rfl, hrx, hox⟩
            replace T := Lib.hid (T.out.read hrx hox)
            clear hrx hox
            go_wp2_with (refine wpList_store_ag btP rfl _ _ rfl _ rfl _ T.out.res (A := btA Bat.zero none 0) rfl rfl rfl (btA_one _ _ _) ?_; intro wy hvy hko hsz hbn)
            rw [Exit.noGoto_ret]
            refine bodyPost_ret (results_ag btP _ rfl rfl hvy rfl) rfl ?_
            rw [HE.out]
            have h3 := T.out.hb
            have hbl := hbn _ _ (Below.refl w.heap.size wx) (Nat.le_refl _)
            exact ⟨none, 0, rfl, BopsN.zero _ _, T.out.rd.under hbl h3, T.out.only.then_new hbl⟩
        · have hb3 := (Below.refl w2.heap.size w2).alloc (Nat.le_refl _) (.cells (opA y q2 c2) 53)
          replace T := Lib.hid (T.out.kept hb3)
          have HP3 := Lib.hid (HP2.out.kept hb3)
          have HRW := Lib.hid (rd_op_one w2 y q2 c2 53)
          clear hb3
          refine step_build_op (by kernel_rfl) _ rfl y q2 c2 rfl ?_
          refine hK.out _ _ trivial (fun hS => ?_)
          clear hK K
          generalize w2.alloc (.cells (opA y q2 c2) 53) = w3 at *
          refine wpAnyH_ready (rs := [1]) (by kernel_rfl) (by simp) ?_
          refine AllReadyH.cons rfl (fun K hK => ?_) AllReadyH.nil
          have x3 := (BtAt.cells T.out.row.at_).2.2.2
          dsimp only at x3
          go_simp
          refine hK.out _ _ trivial (fun hS => ?_)
          clear hK K x3
          refine wpAnyH_ready (rs := [5]) (by kernel_rfl) (by simp) ?_
          refine AllReadyH.cons rfl (fun K hK => ?_) AllReadyH.nil
          refine step_append_kN (by kernel_rfl) _ _ 32 rfl (wc.heap.size + 1) 53 i0 _ 12 128 Tryz.underlying32 hi hz0 hz1 (by decide) hz2 (by decide) rfl _ acc.length (enCells l) rfl T.out.row.own _ 1 1 (opL y q2 c2) rfl rfl HRW.out (fun h => by cases h) (opL_one y q2 c2) (by have := HAL.out; omega) (by have := AgAt.lt T.out.row.at_; omega) ?_
          intro p4 c4 w4 ho4 hg4 hw4
          have HG := Lib.hid (T.out.row.grown HP3.out HN2.out ho4 hg4 hw4)
          clear ho4 hg4 hw4
          refine hK.out _ _ trivial (fun hS => ?_)
          clear hK K
          refine wpAnyH_take (i := 6) (v := ?_) rfl (by kernel_rfl) (by kernel_rfl) (by kernel_rfl) (fun _ _ _ h => h) (Or.inl ⟨by kernel_rfl, ?_⟩) hS ?_
          rotate_left
          · intro W hSW
            go_simp
            all_goals with_reducible rfl
          go_simp
          refine wpAnyH_ready (rs := [7]) (by kernel_rfl) (by simp) ?_
          refine AllReadyH.cons rfl (fun K hK => ?_) AllReadyH.nil
          have y3 := (BtAt.cells HG.out.2.2).2.2.2
          have yf := AgAt.free HG.out.2.2 3
          dsimp only at y3
          go_simp
          refine hK.out _ _ trivial (fun hS => ?_)
          clear hK K y3 yf
          refine wpAnyH_done (by kernel_rfl) ?_ _
          go_simp
          replace T := Lib.hid (T.out.put HG.out.1 HG.out.2.1)
          generalize w4.setCell ⟨wc.heap.size, 3, none⟩ (.slice p4 (acc.length + 1) c4) = w5 at *
          clear HG HP3 HRW
          by_cases he : t2.2 = 0
          · have HF := Lib.hid (HOK.out he)
            have hl2 := HTL.out he
            have HAR2 := Lib.hid (show ∀ z, z ∈ acc ++ [y] → rightO z = true from fun z hz => (List.mem_append.1 hz).elim (fun h => HAR.out z h) (fun h => by rw [List.mem_singleton.1 h]; exact HTO.out he))
            have he2 : ((t2.2 : Int) != 0) = false := by rw [he]; rfl
            go_wp2_with fail
            refine (errs_any B b t2 _ T.out.rd).mono ?_
            rintro e w6 ⟨rfl, rfl⟩
            go_wp2
            go_roundw
            case rel => exact ⟨k + 1, acc ++ [y], _, t2, _, _, by omega, by go_num, T.out, HF.out, hl2, by rw [List.length_append, HAL.out]; rfl, HAR2.out, fun _ => he⟩
            case measure => simp [intOf]; omega
          · have HF := Lib.hid (HBAD.out he)
            have he2 : ((t2.2 : Int) != 0) = true := by rw [bne_iff_ne]; omega
            rw [HF.out] at HT0
            have HE := Lib.hid (HT0.out.trans (endB_err (q := (⟨n1, n2, n3, []⟩, t2)) he))
            go_wp2_with fail
            refine (errs_any B b t2 _ T.out.rd).mono ?_
            rintro e w6 ⟨rfl, rfl⟩
            go_wp2
            go_step3
            refine fwd_goto ?_
            go_wp2_with fail
            refine (fails_any B b t2 _ T.out.rd).mono ?_
            rintro e wx ⟨rfl, hrx, hox⟩
            replace T := Lib.hid (T.out.read hrx hox)
            clear hrx hox
            go_wp2_with (refine wpList_store_ag btP rfl _ _ rfl _ rfl _ T.out.res (A := btA Bat.zero none 0) rfl rfl rfl (btA_one _ _ _) ?_; intro wy hvy hko hsz hbn)
            rw [Exit.noGoto_ret]
            refine bodyPost_ret (results_ag btP _ rfl rfl hvy rfl) rfl ?_
            rw [HE.out]
            have h3 := T.out.hb
            have hbl := hbn _ _ (Below.refl w.heap.size wx) (Nat.le_refl _)
            exact ⟨none, 0, rfl, BopsN.zero _ _, T.out.rd.under hbl h3, T.out.only.then_new hbl⟩
    · obtain rfl : k = n := by omega
      have HF := Lib.hid (HQ.out.trans (show opsS (k - k) t acc = (acc, t) by rw [Nat.sub_self]; rfl))
      rw [HF.out] at HT0
      dsimp only at HT0
      by_cases he : t.2 = 0
      · have he2 : ((t.2 : Int) != 0) = false := by rw [he]; rfl
        have HSZ := Lib.hid (show Szs acc from ⟨fun y hy => right_szB (HAR.out y hy), by have := HAL.out; omega⟩)
        have HRI := Lib.hid (fun W hb => bright_any ⟨n1, n2, n3, acc⟩ p c W HSZ.out hb)
        cases hr : rightT ⟨n1, n2, n3, acc⟩ with
        | true =>
          have HE := Lib.hid (HT0.out.trans (endB_ok (q := (⟨n1, n2, n3, acc⟩, t)) he hr))
          rw [hr] at HRI
          clear hr
          go_wp2_with fail
          refine (errs_any B b t _ T.out.rd).mono ?_
          rintro e w' ⟨rfl, rfl⟩
          have hx := T.out.row.at_
          go_wp2_with (refine wpList_load_ag btP (by kernel_rfl) _ rfl _ rfl (A := btA _ p c) rfl (by assumption) ?_)
          refine (HRI.out _ T.out.row.bops).mono ?_
          rintro e wz ⟨rfl, hbz⟩
          replace T := Lib.hid (T.out.kept hbz)
          clear hbz hx
          have hx := T.out.row.at_
          go_wp2_with (first | (refine wpList_load_ag btP (by kernel_rfl) _ rfl _ rfl (A := btA _ p c) rfl (by assumption) ?_) | (refine wpList_store_ag btP rfl _ _ rfl _ rfl _ T.out.res rfl rfl rfl (btA_one _ _ _) ?_; intro wy hvy hko hsz hbn))
          rw [fwd_ret]
          refine bodyPost_ret (results_ag btP _ rfl rfl hvy rfl) rfl ?_
          rw [HE.out]
          have h1 := T.out.hR0
          have h2 := T.out.hR1
          have h3 := T.out.hb
          have hbl := hbn _ _ (Below.refl w.heap.size wz) (Nat.le_refl _)
          refine ⟨p, c, rfl, ?_, T.out.rd.under hbl h3, T.out.only.then_new hbl⟩
          exact (T.out.row.only (only_of hko hsz hbn) h2).bopsN (by omega)
        | false =>
          have HE := Lib.hid (HT0.out.trans (endB_no (q := (⟨n1, n2, n3, acc⟩, t)) he hr))
          rw [hr] at HRI
          clear hr
          go_wp2_with fail
          refine (errs_any B b t _ T.out.rd).mono ?_
          rintro e w' ⟨rfl, rfl⟩
          have hx := T.out.row.at_
          go_wp2_with (refine wpList_load_ag btP (by kernel_rfl) _ rfl _ rfl (A := btA _ p c) rfl (by assumption) ?_)
          refine (HRI.out _ T.out.row.bops).mono ?_
          rintro e wz ⟨rfl, hbz⟩
          replace T := Lib.hid (T.out.kept hbz)
          clear hbz hx
          go_wp2
          go_step3
          refine fwd_goto ?_
          go_wp2_with fail
          refine (fails_any B b t _ T.out.rd).mono ?_
          rintro e wx ⟨rfl, hrx, hox⟩
          replace T := Lib.hid (T.out.read hrx hox)
          clear hrx hox
          go_wp2_with (refine wpList_store_ag btP rfl _ _ rfl _ rfl _ T.out.res (A := btA Bat.zero none 0) rfl rfl rfl (btA_one _ _ _) ?_; intro wy hvy hko hsz hbn)
          rw [Exit.noGoto_ret]
          refine bodyPost_ret (results_ag btP _ rfl rfl hvy rfl) rfl ?_
          rw [HE.out]
          have h3 := T.out.hb
          have hbl := hbn _ _ (Below.refl w.heap.size wx) (Nat.le_refl _)
          exact ⟨none, 0, rfl, BopsN.zero _ _, T.out.rd.under hbl h3, T.out.only.then_new hbl⟩
      · have he2 : ((t.2 : Int) != 0) = true := by rw [bne_iff_ne]; omega
        have HE := Lib.hid (HT0.out.trans (endB_err (q := (⟨n1, n2, n3, acc⟩, t)) he))
        go_wp2_with fail
        refine (errs_any B b t _ T.out.rd).mono ?_
        rintro e w' ⟨rfl, rfl⟩
        go_wp2
        go_step3
        refine fwd_goto ?_
        go_wp2_with fail
        refine (fails_any B b t _ T.out.rd).mono ?_
        rintro e wx ⟨rfl, hrx, hox⟩
        replace T := Lib.hid (T.out.read hrx hox)
        clear hrx hox
        go_wp2_with (refine wpList_store_ag btP rfl _ _ rfl _ rfl _ T.out.res (A := btA Bat.zero none 0) rfl rfl rfl (btA_one _ _ _) ?_; intro wy hvy hko hsz hbn)
        rw [Exit.noGoto_ret]
        refine bodyPost_ret (results_ag btP _ rfl rfl hvy rfl) rfl ?_
        rw [HE.out]
        have h3 := T.out.hb
        have hbl := hbn _ _ (Below.refl w.heap.size wx) (Nat.le_refl _)
        exact ⟨none, 0, rfl, BopsN.zero _ _, T.out.rd.under hbl h3, T.out.only.then_new hbl⟩
end Go.Proofs.YthpdphlkmleldaaGreat

namespace Go.Proofs.YthpdphlkmleldaaGreat
open Go.RowKit

end Go.Proofs.YthpdphlkmleldaaGreat

namespace Go.Proofs.YthpdphlkmleldaaGreat
open Go.RowKit

theorem unfR_small (l : List UInt8) : (unfR l).1.length ≤ 1048576 := by
  unfold unfR
  repeat' split
  all_goals first | exact Nat.zero_le _ | (have := (numR_small (l.drop 1) 1048576).2.1; simp only [List.length_take, List.length_drop]; omega)
theorem bs_none {w : World} {p : Option Addr} {l : List UInt8} (h : Bs w p l) (hp : p = none) : l = [] := by
  cases l with
  | nil => rfl
  | cons a l =>
    obtain ⟨b, o, e, -⟩ := h (by simp)
    rw [hp] at e
    cases e
/-- a block below the reader's own turns -/
theorem RdS.onlyLow {w w' : World} {B b k : Nat} {s : RS} (h : RdS w B b s) (ho : Only k w w') (hk : k < B) : RdS w' B b s := by
  obtain ⟨h0, h1, h2, h3, h4, h5, p, c, h6, h7, h8, h9, h10⟩ := h
  have hlb : b < w.heap.size := cell_lt h1
  have hc : ∀ j o v, j ≠ k → w.cell? ⟨j, o, none⟩ = some v → w'.cell? ⟨j, o, none⟩ = some v := fun j o v hj hv => by
    rw [World.cell?_of_block (w := w) (ho.block j (cell_lt hv) (by simpa using hj))]; exact hv
  have hf : ∀ o, w'.frozen? ⟨b, o, none⟩ = w.frozen? ⟨b, o, none⟩ := fun o => World.frozen?_of_block (w := w) (ho.block b hlb (by simp; omega))
  have hbk : b ≠ k := by omega
  refine ⟨h0, hc _ _ _ hbk h1, hc _ _ _ hbk h2, by rw [hf]; exact h3, by rw [hf]; exact h4, h5, p, c, hc _ _ _ hbk h6, fun hh => ?_, h8, h9, h10⟩
  obtain ⟨j, o, rfl, hcc⟩ := h7 hh
  exact ⟨j, o, rfl, fun i hi => hc _ _ _ (by have := (h10 _ rfl).2; simp only at this; omega) (hcc i hi)⟩
/-- what Unframe answers -/
def UnfT (w : World) (r : Bat × Nat × Nat) (e : Ending) (w' : World) : Prop :=
  ∃ p c, e = .returned (.tuple #[.agg (btA r.1 p c), .int .i64 (r.2.1 : Int), .int .i64 (r.2.2 : Int)]) ∧ BopsN w.heap.size w' r.1 p c ∧ Below w.heap.size w w'
theorem unframeT_err {l : List UInt8} (h : (unfR l).2.2 ≠ 0) : unframeT l = (Bat.zero, 0, (unfR l).2.2) := by unfold unframeT; rw [if_pos h]
theorem unframeT_no {l : List UInt8} (h : (unfR l).2.2 = 0) (hd : doneR (takeT ((unfR l).1, 0)).2.1 (takeT ((unfR l).1, 0)).2.2 ≠ 0) : unframeT l = (Bat.zero, 0, 21) := by unfold unframeT; rw [if_neg (by simp [h]), if_pos hd]
theorem unframeT_ok {l : List UInt8} (h : (unfR l).2.2 = 0) (hd : doneR (takeT ((unfR l).1, 0)).2.1 (takeT ((unfR l).1, 0)).2.2 = 0) : unframeT l = ((takeT ((unfR l).1, 0)).1, (unfR l).2.1, 0) := by unfold unframeT; rw [if_neg (by simp [h]), if_neg (by simp [hd])]

set_option maxRecDepth 100000 in
set_option maxHeartbeats 4000000 in
theorem bunframe_any (p : Option Addr) (n c : Nat) (l : List UInt8) (w : World) (hn : l.length = n) (h : Bs w p l) (hl : l.length ≤ 4611686018427387904) (hc : l.length ≤ c) :
    Calls Tryz.prog 9 #[.slice p n c] w (UnfT w (unframeT l)) := by
  have hb0 := (Below.refl w.heap.size w).alloc (Nat.le_refl _) (.cells #[.int .i64 0, .int .i64 0, .int .i64 0, .slice none 0 0] 34)
  have HRES := Lib.hid (show AgAt (w.alloc (.cells #[.int .i64 0, .int .i64 0, .int .i64 0, .slice none 0 0] 34)) w.heap.size (btA Bat.zero none 0) from AgAt.new w (btA Bat.zero none 0) 34)
  have HB := Lib.hid hb0
  have HU := Lib.hid (unframe_any p n c l _ hn (h.kept hb0) (by omega) hc)
  have HER := Lib.hid (fun hh => unframeT_err (l := l) hh)
  have HNO := Lib.hid (fun hh hd => unframeT_no (l := l) hh hd)
  have HOK := Lib.hid (fun hh hd => unframeT_ok (l := l) hh hd)
  have ul := unfR_small l
  clear h hb0
  generalize unfR l = u at *
  obtain ⟨c1, sz, er⟩ := u
  dsimp only at *
  go_enter Tryz.func9, Tryz.ntmps9
  go_wp2
  refine wp_scope_fwd 0 rfl ?_
  go_wp2_with fail
  refine HU.out.mono ?_
  rintro e w1 ⟨v1, rfl, hown, hb1⟩
  dsimp only at hown
  obtain ⟨p1, k1, rfl, hbs, -, -, hpn, -⟩ := hown.bs
  have HRE := Lib.hid (HRES.out.kept hb1)
  have HB1 := Lib.hid (HB.out.trans (hb1.mono HB.out.size))
  have HBS := Lib.hid hbs
  clear hown hbs hb1 HRES HU
  by_cases he : er = 0
  · subst he
    go_wp2_with fail
    refine (open_any p1 k1 c1 _ HBS.out (by omega) (fun hh => ⟨hpn hh, bs_none HBS.out hh⟩)).mono ?_
    rintro e w2 ⟨b, rfl, hr, hb2⟩
    have HR := Lib.hid (show RdS w2 _ b (c1, 0) from hr)
    have hbw : w1.heap.size ≤ b := hr.1
    have HRE2 := Lib.hid (HRE.out.kept hb2)
    have HB2 := Lib.hid (HB1.out.trans (hb2.mono HB1.out.size))
    have hrb := HRE.out.lt
    clear hr hb2
    go_wp2_with fail
    refine (btake_any _ b (c1, 0) _ HR.out (Or.inl (by dsimp only; omega))).mono ?_
    generalize takeT (c1, 0) = q at *
    obtain ⟨x, t⟩ := q
    rintro e w3 ⟨p3, k3, rfl, hbo, hr3, ho3⟩
    have HRE3 := Lib.hid (HRE2.out.only ho3 (by omega))
    have hb3 := ho3.below HB2.out (by have := HB1.out.size; omega) HB2.out.size
    have HB3 := Lib.hid hb3
    have HBO := Lib.hid hbo
    have HR3 := Lib.hid hr3
    clear hbo hr3 ho3 hb3
    go_wp2_with (refine wpList_store_ag btP rfl _ _ rfl _ rfl _ HRE3.out rfl rfl rfl (btA_one _ _ _) ?_; intro w4 hv4 hko hsz hbn)
    have hw2 : w.heap.size < w2.heap.size := HRE2.out.lt
    replace HBO := Lib.hid (HBO.out.only (only_of hko hsz hbn) hw2)
    have HR4 := Lib.hid (HR3.out.onlyLow (only_of hko hsz hbn) hrb)
    have HB4 := Lib.hid (hbn _ _ HB3.out (Nat.le_refl _))
    have HV4 := Lib.hid hv4
    clear hko hsz hbn hv4
    go_wp2_with fail
    refine (done_any _ b t.1 t.2 _ HR4.out).mono ?_
    by_cases hd : doneR t.1 t.2 = 0
    · have HE := Lib.hid (HOK.out trivial hd)
      rw [hd]
      rintro e w5 ⟨rfl, rfl⟩
      have hv := HV4.out
      go_wp2_with (first | (refine wpList_load_ag btP (by kernel_rfl) _ rfl _ rfl (A := btA _ p3 k3) rfl (by assumption) ?_) | (refine wpList_store_ag btP rfl _ _ rfl _ rfl _ HV4.out rfl rfl rfl (btA_one _ _ _) ?_; intro w6 hv6 hko hsz hbn))
      rw [fwd_ret]
      obtain ⟨y0, y1, y2, y3⟩ := BtAt.cells hv6
      refine bodyPost_ret (v := .tuple #[.agg (btA x p3 k3), .int .i64 (sz : Int), .int .i64 0]) (by simp [results, Tryz.results9, go_sem, y0, y1, y2, y3, btA]) rfl ?_
      rw [HE.out]
      exact ⟨p3, k3, rfl, (HBO.out.only (only_of hko hsz hbn) hw2).mono (by omega), hbn _ _ HB4.out (Nat.le_refl _)⟩
    · have hd2 : ((doneR t.1 t.2 : Int) != 0) = true := by rw [bne_iff_ne]; omega
      have HE := Lib.hid (HNO.out trivial hd)
      rintro e w5 ⟨rfl, rfl⟩
      go_wp2
      go_step3
      refine fwd_goto ?_
      go_wp2_with (refine wpList_store_ag btP rfl _ _ rfl _ rfl _ HV4.out (A := btA Bat.zero none 0) rfl rfl rfl (btA_one _ _ _) ?_; intro w6 hv6 hko hsz hbn)
      rw [Exit.noGoto_ret]
      obtain ⟨y0, y1, y2, y3⟩ := BtAt.cells hv6
      dsimp only [Bat.zero] at y0 y1 y2 y3
      refine bodyPost_ret (v := .tuple #[.agg (btA Bat.zero none 0), .int .i64 0, .int .i64 21]) (by simp [results, Tryz.results9, go_sem, y0, y1, y2, y3, btA, Bat.zero]) rfl ?_
      rw [HE.out]
      exact ⟨none, 0, rfl, BopsN.zero _ _, hbn _ _ HB4.out (Nat.le_refl _)⟩
  · have he2 : ((er : Int) != 0) = true := by rw [bne_iff_ne]; omega
    have HE := Lib.hid (HER.out he)
    go_wp2
    go_step3
    refine fwd_goto ?_
    go_wp2_with (refine wpList_store_ag btP rfl _ _ rfl _ rfl _ HRE.out (A := btA Bat.zero none 0) rfl rfl rfl (btA_one _ _ _) ?_; intro w4 hv4 hko hsz hbn)
    rw [Exit.noGoto_ret]
    obtain ⟨y0, y1, y2, y3⟩ := BtAt.cells hv4
    dsimp only [Bat.zero] at y0 y1 y2 y3
    refine bodyPost_ret (v := .tuple #[.agg (btA Bat.zero none 0), .int .i64 0, .int .i64 (er : Int)]) (by simp [results, Tryz.results9, go_sem, y0, y1, y2, y3, btA, Bat.zero]) rfl ?_
    rw [HE.out]
    exact ⟨none, 0, rfl, BopsN.zero _ _, hbn _ _ HB1.out (Nat.le_refl _)⟩
end Go.Proofs.YthpdphlkmleldaaGreat
