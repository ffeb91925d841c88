/-
  slices.SortedFunc over a function; the program's Nodes and Below.
  No conditions but sizes.
-/
import Derived.Test.YtilkokhapcgolaaGreatTKeys
import Derived.Test.YtilkokhapcgolaaGreatQSort
namespace Go.Proofs.YtilkokhapcgolaaGreat
open Go.RowKit
open Tm (Sp Tr has put cut kids)

theorem SeqFp.imp {α : Type} {P : Program} {gf : Nat} {lb : Array Value} {enc : α → Value} {S S' Sp Sp' : List α → Prop} {F0 : Nat → Prop} {w : World} (h : SeqFp P gf lb enc S Sp F0 w) (hS : ∀ xs, S xs → S' xs) (hP : ∀ xs, Sp xs → Sp' xs) : SeqFp P gf lb enc S' Sp' F0 w :=
  fun l J Jx W Fp hW hF hJ hlt hY h0 => (h l J Jx W Fp hW hF hJ hlt (fun pre x F1 W1 hj hs => hY pre x F1 W1 hj (hP _ hs)) h0).mono fun _ _ ⟨hv, F2, ht, hg, hr⟩ =>
    ⟨hv, F2, ht, hg, hr.imp (fun ⟨xs, h1, h2⟩ => ⟨xs, hS _ h1, h2⟩) fun ⟨pre, h1, h2⟩ => ⟨pre, hP _ h1, h2⟩⟩
theorem own_addr2 {w : World} {B : Nat} {E : TypeId} {k : Nat} {p : Option Addr} {n c : Nat} {xs : List Value} (h : w.ownsRow B E k (.slice p n c) n xs) : p = none ∨ ∃ g, p = some ⟨g, 0, none⟩ := by
  rcases h.2 with ⟨h2, -⟩ | ⟨g, cap, cur, hv, -⟩
  · cases h2; exact Or.inl rfl
  · cases hv; exact Or.inr ⟨g, rfl⟩
theorem cs_rd {w : World} {g : Nat} {m : List Qm.St} (h : CS w g m.length (Qm.stOf m)) : Rd w (some ⟨g, 0, none⟩) (stCells m) := fun _ =>
  ⟨g, 0, rfl, fun i u hu => by
    have hi : i < m.length * 2 := by have := (List.getElem?_eq_some_iff.1 hu).1; rw [stCells_length] at this; exact this
    obtain ⟨h0, h1, -, -⟩ := h (i / 2) (by omega)
    obtain ⟨g0, g1⟩ := stCells_get m (i / 2) (by omega)
    rw [Nat.zero_add]
    rcases Nat.mod_two_eq_zero_or_one i with he | he
    · rw [show i / 2 * 2 = i from by omega] at h0 g0
      rw [hu] at g0
      rw [h0]; exact g0.symm
    · rw [show i / 2 * 2 + 1 = i from by omega] at h1 g1
      rw [hu] at g1
      rw [h1]; exact g1.symm⟩
/-- a row of stamps, in new memory -/
def NodesOut (S : List Qm.St → Prop) (w : World) (e : Ending) (w' : World) : Prop :=
  ∃ p c m, S m ∧ e = .returned (.slice p m.length c) ∧ Rd w' p (stCells m) ∧ ((∀ a, p = some a → w.heap.size ≤ a.block) ∧ (p = none → c = 0)) ∧ Below w.heap.size w w'

set_option maxRecDepth 100000 in
set_option maxHeartbeats 2000000 in
theorem sortedFunc_any {gf : Nat} {lb : Array Value} {K : List Qm.St} {Sp : List Qm.St → Prop} (w : World) (eg : ∀ args w, (callFunc gf args).run Tryz.prog w = .ok (.enter gf args) w) (hseq : SeqFp Tryz.prog gf lb snV (fun xs => xs.Perm K) Sp (fun k => w.heap.size ≤ k) w) (hlen : ∀ pre, Sp pre → pre.length ≤ 1000000) (hK : K.length ≤ 5000) :
    Calls Tryz.prog 54 #[.func (.func gf) #[] lb, .func (.func 56) #[] #[]] w (NodesOut (fun m => m.Perm K) w) := by
  have HC := Lib.hid (collect_any w eg hseq hlen)
  clear eg hseq hlen
  go_enter Tryz.func54, Tryz.ntmps54
  go_wp2_with fail
  refine HC.out.mono ?_
  rintro e w1 ⟨v, xs, hp, rfl, ho, hb⟩
  have hxl : xs.length = K.length := hp.length_eq
  obtain ⟨p1, c1, rfl, hrd, hcap, -, hnil, -⟩ := own_rd ho
  by_cases h0 : xs.length = 0
  · have hx : xs = [] := List.eq_nil_of_length_eq_zero h0
    have HE := Lib.hid (show NodesOut (fun m => m.Perm K) w (.returned (.slice p1 0 c1)) w1 from ⟨p1, c1, [], by rw [← hx]; exact hp, rfl, Rd.nil _ _, ⟨fun a ha => (World.ownsRow.lt ho a.block (by rw [ha]; rfl)).1, hnil⟩, hb⟩)
    rw [h0]
    have HN := Lib.hid (fun W => AnyF.slices_SortFunc_none (P := Tryz.prog) (ρ := Tryz.sortSt_ren) Tryz.sortSt p1 c1 (.func (.func 56) #[] #[]) W)
    change Hid (∀ W, Calls Tryz.prog 67 _ _ _) at HN
    clear ho hb h0 hp hrd hcap HC hxl hnil
    go_wp2_with fail
    refine (HN.out _).mono ?_
    rintro e w2 ⟨rfl, rfl⟩
    go_wp2
    go_ret
    exact HE.out
  · obtain ⟨g, rfl⟩ : ∃ g, p1 = some ⟨g, 0, none⟩ := by
      rcases own_addr2 ho with rfl | h
      · rcases ho.2 with ⟨-, h⟩ | ⟨g, cap, cur, hv, -⟩
        · exact absurd h h0
        · cases hv
      · exact h
    have HS := Lib.hid (sort_any w.heap.size g c1 xs w1 ho (by omega))
    have HGB := Lib.hid (show w.heap.size ≤ g from (World.ownsRow.lt ho g rfl).1)
    have HB := Lib.hid hb
    have HP := Lib.hid hp
    clear ho hb h0 hp hrd hcap HC hxl hnil
    go_wp2_with fail
    refine HS.out.mono ?_
    rintro e w2 ⟨rfl, m, hp, hs, hcs, ht⟩
    have hml : m.length = xs.length := hp.length_eq
    have HE := Lib.hid (show NodesOut (fun m => m.Perm K) w (.returned (.slice (some ⟨g, 0, none⟩) xs.length c1)) w2 from
      ⟨some ⟨g, 0, none⟩, c1, m, hp.trans HP.out, by rw [hml], cs_rd hcs, ⟨fun a ha => (by cases ha; exact HGB.out), fun h => (by cases h)⟩, HB.out.trans (ht.below (fun k _ hk => by rw [hk]; exact HGB.out) HB.out.size)⟩)
    clear hp hs hcs ht hml
    go_wp2
    go_ret
    exact HE.out

set_option maxRecDepth 100000 in
set_option maxHeartbeats 4000000 in
theorem below_any {P M1 M2 : Nat} {T : Tr} {C : List Kid} {F : Nat → Prop} (p : Qm.St) (w : World) (h : Lay w P M1 M2 T C F) (hp : StWf p) (hT : T.length ≤ 5000) :
    Calls Tryz.prog 31 #[.pointer (some ⟨P, 0, none⟩), snV p] w (NodesOut (fun m => m.Perm (kids T p)) w) := by
  have hb := (Below.refl w.heap.size w).alloc (Nat.le_refl _) (.cells #[.int .i64 p.1, .int .i64 p.2] 24)
  have HN := Lib.hid (AgAt.new w #[.int .i64 p.1, .int .i64 p.2] 24)
  have HL := Lib.hid (h.kept hb)
  have HB := Lib.hid hb
  have HWN := Lib.hid hp
  obtain ⟨ko, hko⟩ : ∃ k, k = kidOf C p := ⟨_, rfl⟩
  have HKO := Lib.hid hko
  have hkl : (kids T p).length ≤ 5000 := by
    unfold kids
    rw [List.length_map]
    exact Nat.le_trans (List.length_filter_le _ _) hT
  have HLT := Lib.hid (fun k hk => h.lt k hk)
  have HSO := Lib.hid (fun (w1 : World) (hL : Lay w1 P M1 M2 T C F) {b0 : Nat} (hu : AgAt w1 b0 #[.map ko]) => show Calls Tryz.prog 54 #[.func (.func 68) #[] #[.pointer (some ⟨b0, 0, none⟩)], .func (.func 56) #[] #[]] w1 (NodesOut (fun m => m.Perm (kids T p)) w1) from by
    refine sortedFunc_any (gf := 68) (lb := #[.pointer (some ⟨b0, 0, none⟩)]) (K := kids T p) (Sp := fun pre => ∃ rest, (pre ++ rest).Perm (kids T p)) w1 (enters_of Tryz.func68 (by kernel_rfl) rfl) ?_ (fun pre ⟨rest, hr⟩ => by have := hr.length_eq; rw [List.length_append] at this; omega) hkl
    cases ko with
    | none =>
      have hk := hL.kidNone hko.symm
      exact (keysB1_nil w1 hu).imp (fun xs hx => by rw [hx, hk]) (fun _ h => h.elim)
    | some kb =>
      obtain ⟨c, -, -, -, hm, -, hperm⟩ := hL.kidSome hko.symm
      have hn : (nodesOf c.l).map Prod.fst = c.l := by unfold nodesOf; rw [List.map_map, show (Prod.fst ∘ fun n : Qm.St => (n, Value.agg #[])) = id from rfl, List.map_id]
      refine (keysB1_seq (F0 := fun k => w1.heap.size ≤ k) w1 hu hm (fun h => by have := hm.lt; have : w1.heap.size ≤ kb := h; omega)).imp (fun xs hx => ?_) (fun pre ⟨rest, hr⟩ => ⟨rest, ?_⟩)
      · rw [hn] at hx; exact hx.trans hperm
      · rw [hn] at hr; exact hr.trans hperm)
  clear h hb hp hko hT hkl
  go_enter Tryz.func31, Tryz.ntmps31
  go_wp2_with fail
  refine (ours_any _ HL.out).mono ?_
  rintro e w1 ⟨rfl, rfl⟩
  go_upto_region 3 with fail
  generalize w.alloc (.cells #[.int .i64 p.1, .int .i64 p.2] 24) = w1 at *
  have hbd := Below.drew (Below.refl w1.heap.size w1)
  replace HL := Lib.hid (HL.out.kept hbd)
  replace HN := Lib.hid (AgAt.kept HN.out hbd)
  replace HB := Lib.hid (HB.out.trans (hbd.mono HB.out.size))
  refine wp_region_held_drew (S := fun W => Below w1.drew.heap.size w1.drew W) (by kernel_rfl) (Below.refl _ _) (fun hS => ?_)
  clear hbd
  generalize w1.drew = wd at *
  refine wpAnyH_take (i := 0) (v := ?_) rfl (by kernel_rfl) (by kernel_rfl) (by kernel_rfl) (fun _ _ _ h => h) (Or.inl ⟨by kernel_rfl, ?_⟩) hS ?_
  rotate_left
  · intro W hSW
    go_simp
    all_goals with_reducible rfl
  refine wpAnyH_take (i := 1) (v := ?_) rfl (by kernel_rfl) (by kernel_rfl) (by kernel_rfl) (fun _ _ _ h => h) (Or.inl ⟨by kernel_rfl, ?_⟩) hS ?_
  rotate_left
  · intro W hSW
    go_simp
    all_goals with_reducible rfl
  refine wpAnyH_take (i := 2) (v := ?_) rfl (by kernel_rfl) (by kernel_rfl) (by kernel_rfl) (fun _ _ _ h => h) (Or.inl ⟨by kernel_rfl, ?_⟩) hS ?_
  rotate_left
  · intro W hSW
    go_simp
    all_goals with_reducible rfl
  refine wpAnyH_take (i := 3) (v := ?_) rfl (by kernel_rfl) (by kernel_rfl) (by kernel_rfl) (fun _ _ _ h => h) (Or.inl ⟨by kernel_rfl, ?_⟩) hS ?_
  rotate_left
  · intro W hSW
    have y1 := (HL.out.kept hSW).cell1
    go_simp
    all_goals with_reducible rfl
  go_simp
  refine wpAnyH_take (i := 4) (v := snV p) rfl (by kernel_rfl) (by kernel_rfl) (by kernel_rfl) (fun _ _ _ h => h) (Or.inl ⟨by kernel_rfl, fun W hSW => exec_load_ag stT rfl rfl rfl (AgAt.kept HN.out hSW)⟩) hS ?_
  go_simp
  refine wpAnyH_take (i := 5) (v := .map ko) rfl (by kernel_rfl) (by kernel_rfl) (by kernel_rfl) (fun _ _ _ h => h) (Or.inl ⟨by kernel_rfl, fun W hSW => exec_lookup rfl rfl rfl (by rw [HKO.out]; exact (HL.out.kept hSW).lookB _ HWN.out)⟩) hS ?_
  go_simp
  refine wpAnyH_ready (rs := [6]) (by kernel_rfl) (by simp) ?_
  refine AllReadyH.cons rfl (fun K hK => ?_) AllReadyH.nil
  go_simp
  go_wp2_with ((go_at_call 55; refine (keysB_any ko _).mono ?_; rintro e wn ⟨rfl, hun, hbn⟩))
  have HU := Lib.hid hun
  have HBN := Lib.hid hbn
  replace HL := Lib.hid (HL.out.kept hbn)
  replace HB := Lib.hid (HB.out.trans (hbn.mono HB.out.size))
  have HWN2 := Lib.hid (show wd.heap.size < wn.heap.size from AgAt.lt hun)
  refine hK.out _ _ (hS.trans (hbn.mono hS.size)) (fun hS => ?_)
  clear hK K hbn hun
  refine wpAnyH_ready (rs := [7]) (by kernel_rfl) (by simp) ?_
  refine AllReadyH.cons rfl (fun K hK => ?_) AllReadyH.nil
  go_simp
  go_wp2_with ((go_at_call 54; refine (HSO.out wn HL.out HU.out).mono ?_; rintro e w5 ⟨p5, c5, m5, h5, rfl, h6, h7, h8⟩))
  have HO := Lib.hid (show NodesOut (fun xs => xs.Perm (kids T p)) w (.returned (.slice p5 m5.length c5)) w5 from ⟨p5, c5, m5, h5, rfl, h6, ⟨fun a ha => Nat.le_trans HB.out.size (h7.1 a ha), h7.2⟩, HB.out.trans (h8.mono HB.out.size)⟩)
  have HB8 := Lib.hid h8
  refine hK.out _ _ (hS.trans (h8.mono hS.size)) (fun hS => ?_)
  clear hK K h5 h6 h7 h8
  refine wpAnyH_take (i := 8) (v := ?_) rfl (by kernel_rfl) (by kernel_rfl) (by kernel_rfl) (fun _ _ _ h => h) (Or.inl ⟨by kernel_rfl, ?_⟩) hS ?_
  rotate_left
  · intro W hSW
    go_simp
    all_goals with_reducible rfl
  go_simp
  refine wpAnyH_done (by kernel_rfl) ?_ _
  go_simp
  clear hS
  go_wp2
  go_ret
  exact HO.out
end Go.Proofs.YtilkokhapcgolaaGreat
