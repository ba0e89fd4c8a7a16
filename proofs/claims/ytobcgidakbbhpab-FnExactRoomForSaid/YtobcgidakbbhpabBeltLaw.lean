/- The laws' own functions over belts: size, copy, comparison of equal ones, marks. -/
import Derived.Test.YtobcgidakbbhpabRowItem
namespace Go.Proofs.Ytobcgidakbbhpab
open Go.RowKit

theorem szItemS_any (n : Nat) (p : Option Addr) (c : Nat) (l : Nat) (hl : l ≤ 1099511627776) (hn : n ≤ maxLen) (w : World) :
    Calls Try.prog 74 #[.slice p n c, .int .i64 (l : Int)] w fun e w' => e = .returned (.int .i64 (if n ≤ l then ((l - n : Nat) : Int) else -1)) ∧ w = w' := by
  unfold maxLen at hn
  by_cases h : n ≤ l
  · rw [if_pos h]
    have h1 : (l : Int) - (n : Int) = ((l - n : Nat) : Int) := by omega
    have H1 := Lib.hid h1
    have h2 : ¬ ((l : Int) - (n : Int) < 0) := by omega
    clear h1
    go_enter Try.func74, Try.ntmps74
    go_wp2
    go_ret
    refine ⟨?_, rfl⟩
    rw [← H1.out]
    rfl
  · rw [if_neg h]
    have h2 : (l : Int) - (n : Int) < 0 := by omega
    go_enter Try.func74, Try.ntmps74
    go_wp2
    go_ret
    exact ⟨rfl, rfl⟩

theorem szBelt_any (n : Nat) (p : Option Addr) (c : Nat) (l : Nat) (hl : l ≤ 1099511627776) (hn : n ≤ maxLen) (L G : Int) (H : Bool) (w : World) :
    Calls Try.prog 15 #[.agg #[.int .i64 L, .int .i64 G, .bool H, .slice p n c], .int .i64 (l : Int)] w fun e w' => e = .returned (.int .i64 (if n ≤ l then ((l - n : Nat) : Int) else -1)) ∧ Below w.heap.size w w' := by
  have hc := fun W => szItemS_any n p c l hl hn W
  by_cases h : n ≤ l
  · simp only [if_pos h] at hc
    rw [if_pos h]
    have h2 : ¬ (((l - n : Nat) : Int) < 0) := by omega
    go_enter Try.func15, Try.ntmps15
    go_wp2_with (go_at_call 74; refine (hc _).mono ?_; rintro e w2 ⟨rfl, rfl⟩)
    go_ret
    refine ⟨rfl, ?_⟩
    repeat (first | exact Below.refl _ _ | refine Below.alloc ?_ (by simp <;> omega) _ | refine Below.setCell ?_ (by simp <;> omega) _ | refine Below.drew ?_)
  · simp only [if_neg h] at hc
    rw [if_neg h]
    go_enter Try.func15, Try.ntmps15
    go_wp2_with (go_at_call 74; refine (hc _).mono ?_; rintro e w2 ⟨rfl, rfl⟩)
    go_ret
    refine ⟨rfl, ?_⟩
    repeat (first | exact Below.refl _ _ | refine Below.alloc ?_ (by simp <;> omega) _ | refine Below.setCell ?_ (by simp <;> omega) _ | refine Below.drew ?_)

set_option maxRecDepth 100000 in
set_option maxHeartbeats 1000000 in
theorem toBelt_any (n : Nat) (hn : n ≤ 1048576) (z : Nat → Int) (p : Option Addr) (c g o : Nat) (L G : Int) (H : Bool) (w : World) (h : FlatAt w 0 w.heap.size p g o (n * 3) (fun j => .int .i64 (z j))) :
    Calls Try.prog 17 #[.agg #[.int .i64 L, .int .i64 G, .bool H, .slice p n c]] w fun e w' => ∃ p' c' g', e = .returned (.agg #[.int .i64 L, .int .i64 G, .bool H, .slice p' n c']) ∧ n ≤ c' ∧ FlatAt w' w.heap.size w'.heap.size p' g' 0 (n * 3) (fun j => .int .i64 (z j)) ∧ FreeAt w' g' 0 (n * 3) ∧ Below w.heap.size w w' := by
  have H0 := Lib.hid h
  clear h
  go_enter Try.func17, Try.ntmps17
  have hT := Lib.hid (fun W (hb : Below w.heap.size w W) => toItemS_any n hn z p c g o W ((H0.out.below hb (Nat.le_refl _)).wide (Nat.zero_le _) hb.size))
  go_wp2_with fail
  refine (hT.out _ (by repeat (first | exact Below.refl _ _ | refine Below.alloc ?_ (by simp <;> omega) _ | refine Below.setCell ?_ (by simp <;> omega) _ | refine Below.drew ?_))).mono ?_
  rintro e w2 ⟨p', c', g', rfl, hcc, hfl, hfr, hb2⟩
  obtain ⟨hc2, hf2⟩ := bcell hb2
  have hz2 := hb2.size
  have HFL := Lib.hid hfl
  have HFR := Lib.hid hfr
  have HB2 := Lib.hid hb2
  simp at hz2
  clear hfl hfr hb2
  go_wp2
  refine bodyPost_ret (v := .agg #[.int .i64 L, .int .i64 G, .bool H, .slice p' n c']) (by simp [results, Try.results17, go_sem, hc2]) rfl ⟨p', c', g', rfl, hcc, ?_, ?_, ?_⟩
  · have h1 := HFL.out.wide (show w.heap.size + 1 + 1 + 1 ≤ _ by simp) (Nat.le_refl _)
    have h2 := ((((h1.far (q := ⟨w.heap.size + 1 + 1, 3, none⟩) (.slice p' n c') (.inl (by simp <;> omega))).far (q := ⟨w.heap.size + 1, 0, none⟩) (.int .i64 L) (.inl (by simp <;> omega))).far (q := ⟨w.heap.size + 1, 1, none⟩) (.int .i64 G) (.inl (by simp <;> omega))).far (q := ⟨w.heap.size + 1, 2, none⟩) (.bool H) (.inl (by simp <;> omega))).far (q := ⟨w.heap.size + 1, 3, none⟩) (.slice p' n c') (.inl (by simp <;> omega))
    exact h2.wide (by omega) (by simp [World.setCell])
  · exact ((((HFR.out.set _ _).set _ _).set _ _).set _ _).set _ _
  · have hb := HB2.out
    refine Below.setCell (Below.setCell (Below.setCell (Below.setCell (Below.setCell (below_via hb ?_ ?_) ?_ _) ?_ _) ?_ _) ?_ _) ?_ _
    · repeat (first | exact Below.refl _ _ | refine Below.alloc ?_ (by simp <;> omega) _ | refine Below.setCell ?_ (by simp <;> omega) _ | refine Below.drew ?_)
    all_goals (simp <;> omega)


set_option maxRecDepth 100000 in
set_option maxHeartbeats 1000000 in
theorem eqBelt_any (n : Nat) (hn : n ≤ 1048576) (z : Nat → Int) (pa pb : Option Addr) (ca cb ga oa gb ob : Nat) (L G : Int) (H : Bool) (w : World)
    (ha : FlatAt w 0 w.heap.size pa ga oa (n * 3) (fun j => .int .i64 (z j))) (hb : FlatAt w 0 w.heap.size pb gb ob (n * 3) (fun j => .int .i64 (z j))) :
    Calls Try.prog 19 #[.agg #[.int .i64 L, .int .i64 G, .bool H, .slice pa n ca], .agg #[.int .i64 L, .int .i64 G, .bool H, .slice pb n cb]] w fun e w' => e = .returned (.bool true) ∧ Below w.heap.size w w' := by
  have hT := Lib.hid (fun W (hw : Below w.heap.size w W) => eqItemS_any n hn z pa pb ca cb ga oa gb ob W ((ha.below hw (Nat.le_refl _)).wide (Nat.zero_le _) hw.size) ((hb.below hw (Nat.le_refl _)).wide (Nat.zero_le _) hw.size))
  clear ha hb
  cases H
  all_goals
    go_enter Try.func19, Try.ntmps19
    go_wp2_with fail
    refine (hT.out _ (by repeat (first | exact Below.refl _ _ | refine Below.alloc ?_ (by simp <;> omega) _ | refine Below.setCell ?_ (by simp <;> omega) _ | refine Below.drew ?_))).mono ?_
    rintro e w2 ⟨rfl, hb2⟩
    have HB2 := Lib.hid hb2
    clear hb2
    go_wp2
    go_ret
    refine ⟨rfl, below_via HB2.out ?_ ?_⟩
    · repeat (first | exact Below.refl _ _ | refine Below.alloc ?_ (by simp <;> omega) _ | refine Below.setCell ?_ (by simp <;> omega) _ | refine Below.drew ?_)
    · simp <;> omega

set_option maxRecDepth 100000 in
theorem markBelt_any (k0 n : Nat) (hn : n ≤ 1048576) (hk9 : k0 ≤ 1099511627776) (f : Nat → Value) (lo hi : Nat) (p : Option Addr) (c g o : Nat) (L G : Int) (H : Bool) (w : World) (hh : hi ≤ w.heap.size) (h : FlatAt w lo hi p g o (n * 3) f) (hf : FreeAt w g o (n * 3)) :
    Calls Try.prog 21 #[.agg #[.int .i64 L, .int .i64 G, .bool H, .slice p n c], .int .i64 (k0 : Int)] w fun e w' => e = .returned (.int .i64 ((k0 + n * 3 : Nat) : Int)) ∧ FlatAt w' lo hi p g o (n * 3) (fun j => .int .i64 ((k0 + j : Nat) : Int)) ∧ FreeAt w' g o (n * 3) ∧ Touch lo hi w w' := by
  have hT := Lib.hid (fun W (hw : Below w.heap.size w W) => markItemS_touch k0 n hn hk9 f lo hi p c g o W (h.below hw hh) (hf.below hw (fun hm => Nat.lt_of_lt_of_le (h.1 hm).2.2 hh)))
  obtain ⟨m, hm⟩ : ∃ m : Nat, m = k0 + n * 3 := ⟨_, rfl⟩
  rw [← hm]
  have HM := Lib.hid hm
  clear h hf hm
  go_enter Try.func21, Try.ntmps21
  go_wp2_with fail
  refine (hT.out _ (by repeat (first | exact Below.refl _ _ | refine Below.alloc ?_ (by simp <;> omega) _ | refine Below.setCell ?_ (by simp <;> omega) _ | refine Below.drew ?_))).mono ?_
  rw [← HM.out]
  rintro e w2 ⟨rfl, h1, h2, h3⟩
  have H1 := Lib.hid h1
  have H2 := Lib.hid h2
  have H3 := Lib.hid h3
  clear h1 h2 h3
  go_wp2
  go_ret
  refine ⟨rfl, H1.out, H2.out, (Touch.of_below ?_).trans H3.out⟩
  exact (Below.refl _ _).alloc (Nat.le_refl _) _

end Go.Proofs.Ytobcgidakbbhpab
