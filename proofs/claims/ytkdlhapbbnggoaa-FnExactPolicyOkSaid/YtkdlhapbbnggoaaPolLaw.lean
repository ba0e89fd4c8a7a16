/- The laws' own functions over policies. -/
import Derived.Test.YtkdlhapbbnggoaaToInts
import Derived.Test.YtkdlhapbbnggoaaIntEq
import Derived.Test.YtkdlhapbbnggoaaPolicyOk
namespace Go.Proofs.Ytkdlhapbbnggoaa
open Go.RowKit

theorem szPolicy_v (n : Nat) (v : Value) (l : Nat) (hl : l ≤ 1099511627776) (hn : n ≤ maxLen) (m : Nat) (z : Nat → Int) (w : World) (h : Rd w v n m z) :
    Calls Try.prog 15 #[.agg #[v], .int .i64 (l : Int)] w fun e w' => e = .returned (.int .i64 (if n ≤ l then ((l - n : Nat) : Int) else -1)) ∧ Below w.heap.size w w' := by
  have hc := Lib.hid (fun W (hW : Below w.heap.size w W) => szIntS_v n v l hl hn m z W (h.later hW))
  clear h
  by_cases h : n ≤ l
  · simp only [if_pos h] at hc
    rw [if_pos h]
    have h2 : ¬ (((l - n : Nat) : Int) < 0) := by omega
    go_enter Try.func15, Try.ntmps15
    go_wp2_with fail
    refine (hc.out _ (below_box (Nat.le_refl _) _)).mono ?_
    rintro e w2 ⟨rfl, rfl⟩
    go_wp2
    go_ret
    exact ⟨rfl, below_box (Nat.le_refl _) _⟩
  · simp only [if_neg h] at hc
    rw [if_neg h]
    go_enter Try.func15, Try.ntmps15
    go_wp2_with fail
    refine (hc.out _ (below_box (Nat.le_refl _) _)).mono ?_
    rintro e w2 ⟨rfl, rfl⟩
    go_wp2
    go_ret
    exact ⟨rfl, below_box (Nat.le_refl _) _⟩

set_option maxRecDepth 100000 in
set_option maxHeartbeats 1000000 in
theorem toPolicy_v (n : Nat) (hn : n ≤ 1048576) (z : Nat → Int) (v : Value) (w : World) (h : Rd w v n n z) :
    Calls Try.prog 17 #[.agg #[v]] w fun e w' => ∃ p' c', e = .returned (.agg #[.slice p' n c']) ∧ Own w' w.heap.size w'.heap.size (.slice p' n c') n n z ∧ Below w.heap.size w w' := by
  have hT := Lib.hid (fun W (hb : Below w.heap.size w W) => toIntS_v n hn z v W (h.later hb))
  clear h
  go_enter Try.func17, Try.ntmps17
  go_wp2_with fail
  refine (hT.out _ (by repeat (first | exact Below.refl _ _ | refine Below.alloc ?_ (by simp <;> omega) _ | refine Below.setCell ?_ (by simp <;> omega) _ | refine Below.drew ?_))).mono ?_
  rintro e w2 ⟨p', c', rfl, hfl, hb2⟩
  obtain ⟨hc2, hf2⟩ := bcell hb2
  have hz2 := hb2.size
  have HFL := Lib.hid hfl
  have HB2 := Lib.hid hb2
  simp at hz2
  clear hfl hb2
  go_wp2
  refine bodyPost_ret (v := .agg #[.slice p' n c']) (by simp [results, Try.results17, go_sem, hc2]) rfl ⟨p', c', rfl, ?_, ?_⟩
  · obtain ⟨p1, c1, g1, o1, e1, h1, h2, h3⟩ := HFL.out
    injection e1 with e1 e2 e3
    subst e1 e3
    have h4 := h2.wide (show w.heap.size + 1 + 1 + 1 ≤ _ by simp) (Nat.le_refl _)
    have h5 := (h4.far (q := ⟨w.heap.size + 1 + 1, 0, none⟩) (.slice p' n c') (.inl (by simp <;> omega))).far (q := ⟨w.heap.size + 1, 0, none⟩) (.slice p' n c') (.inl (by simp <;> omega))
    exact ⟨_, _, g1, o1, rfl, h1, h5.wide (by omega) (by simp [World.setCell]), (h3.set _ _).set _ _⟩
  · have hb := HB2.out
    refine Below.setCell (Below.setCell (below_via hb ?_ ?_) ?_ _) ?_ _
    · repeat (first | exact Below.refl _ _ | refine Below.alloc ?_ (by simp <;> omega) _ | refine Below.setCell ?_ (by simp <;> omega) _ | refine Below.drew ?_)
    all_goals (simp <;> omega)

set_option maxRecDepth 100000 in
set_option maxHeartbeats 1000000 in
theorem eqPolicy_v (n : Nat) (hn : n ≤ 1048576) (z : Nat → Int) (va vb : Value) (w : World) (ha : Rd w va n n z) (hb : Rd w vb n n z) :
    Calls Try.prog 19 #[.agg #[va], .agg #[vb]] w fun e w' => e = .returned (.bool true) ∧ Below w.heap.size w w' := by
  have hT := Lib.hid (fun W (hw : Below w.heap.size w W) => eqIntS_v n hn z va vb W (ha.later hw) (hb.later hw))
  clear ha hb
  go_enter Try.func19, Try.ntmps19
  go_wp2_with fail
  refine (hT.out _ (by repeat (first | exact Below.refl _ _ | refine Below.alloc ?_ (by simp <;> omega) _ | refine Below.setCell ?_ (by simp <;> omega) _ | refine Below.drew ?_))).mono ?_
  rintro e w2 ⟨rfl, hb2⟩
  have HB2 := Lib.hid hb2
  clear hb2
  go_wp2
  go_ret
  refine ⟨rfl, below_via HB2.out ?_ ?_⟩
  · repeat (first | exact Below.refl _ _ | refine Below.alloc ?_ (by simp <;> omega) _ | refine Below.setCell ?_ (by simp <;> omega) _ | refine Below.drew ?_)
  · simp <;> omega

end Go.Proofs.Ytkdlhapbbnggoaa
