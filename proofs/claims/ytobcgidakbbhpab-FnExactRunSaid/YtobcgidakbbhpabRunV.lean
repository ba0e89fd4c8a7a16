/- What Run returns, the program's and the model's, whatever comes. -/
import Derived.Test.YtobcgidakbbhpabRunI
import Derived.Test.YtobcgidakbbhpabRunS
namespace Go.Proofs.Ytobcgidakbbhpab
open Go.RowKit
set_option linter.unusedVariables false

noncomputable def rnOk (L G : Int) (n : Nat) (z : Nat → Int) (s : Int) : Bool := okB L G n z && inB 0 2000 s
noncomputable def rnN (L G : Int) (H : Bool) (n : Nat) (z : Nat → Int) (s : Int) : Nat := if rnOk L G n z s = true then (ru L G H n z s.toNat).n else n
noncomputable def rnZ (L G : Int) (H : Bool) (n : Nat) (z : Nat → Int) (s : Int) : Nat → Int := if rnOk L G n z s = true then (ru L G H n z s.toNat).z else z
noncomputable def rnE (L G : Int) (H : Bool) (n : Nat) (z : Nat → Int) (s : Int) : Nat := if rnOk L G n z s = true then n - (ru L G H n z s.toNat).n else 0
noncomputable def rnX (L G : Int) (H : Bool) (n : Nat) (z : Nat → Int) (s : Int) : Nat → Int := if rnOk L G n z s = true then (fun j => (ru L G H n z s.toNat).l.getD j 0) else fun _ => 0
theorem rnN_le (L G : Int) (H : Bool) (n : Nat) (z : Nat → Int) (s : Int) : rnN L G H n z s ≤ n := by
  unfold rnN; split
  · exact (ru_len _).1
  · exact Nat.le_refl _
theorem rnE_le (L G : Int) (H : Bool) (n : Nat) (z : Nat → Int) (s : Int) : rnE L G H n z s ≤ n := by
  unfold rnE; split <;> omega
theorem rn_ok {L G : Int} {H : Bool} {n : Nat} {z : Nat → Int} {s : Int} (h : rnOk L G n z s = true) : OkP L G n z ∧ 0 ≤ s ∧ s ≤ 2000 := by
  unfold rnOk at h
  rw [Bool.and_eq_true] at h
  obtain ⟨a, b⟩ := inB_iff.1 h.2
  exact ⟨okB_iff.1 h.1, a, b⟩
theorem rn_bad {L G : Int} {n : Nat} {z : Nat → Int} {s : Int} (h : rnOk L G n z s = false) : okB L G n z = false ∨ inB 0 2000 s = false := by
  unfold rnOk at h
  cases hk : okB L G n z with
  | true => rw [hk, Bool.true_and] at h; exact .inr h
  | false => exact .inl rfl

set_option maxRecDepth 100000 in
set_option maxHeartbeats 4000000 in
theorem iRun_bad (n : Nat) (hn : n ≤ 1048576) (z : Nat → Int) (p : Option Addr) (c g o : Nat) (L G : Int) (H : Bool) (s : Int) (w : World) (h : FlatAt w 0 w.heap.size p g o (n * 3) (fun j => .int .i64 (z j))) (hc : n ≤ c) (hbad : okB L G n z = false ∨ inB 0 2000 s = false) :
    Calls Try.prog 18 #[.agg #[.int .i64 L, .int .i64 G, .bool H, .slice p n c], .int .i64 s] w fun e w' => ∃ p' c', e = .returned (.tuple #[.agg #[.int .i64 L, .int .i64 G, .bool H, .slice p' n c'], .slice none 0 0]) ∧ Own w' w.heap.size w'.heap.size (.slice p' n c') n (n * 3) z ∧ Below w.heap.size w w' := by
  have hwo := Lib.hid (fun W (hb : Below w.heap.size w W) => workOn_any n hn z p c g o L G H W ((h.below hb (Nat.le_refl _)).wide (Nat.zero_le _) hb.size))
  have hbo := Lib.hid (fun W (hb : Below w.heap.size w W) => iBeltOk_any n (by unfold maxLen; omega) z p c g o L G H W ((h.below hb (Nat.le_refl _)).wide (Nat.zero_le _) hb.size) hc)
  have c4 := cellsWorkR
  clear h
  rcases Bool.eq_false_or_eq_true (okB L G n z) with hk | hk
  rotate_left
  · simp only [hk] at hbo
    clear hk hbad
    go_enter Try.func18, Try.ntmps18
    go_wp2_with (first
      | (go_at_call 79; refine (hwo.out _ (by repeat (first | exact Below.refl _ _ | refine Below.alloc ?_ (by simp <;> omega) _))).mono ?_; rintro e w2 ⟨gw, p', c', rfl, hcc, hgw, hwb, hown, hne, hb2⟩; have hw2 := below_via hb2 (B := w.heap.size) (w := w) (by repeat (first | exact Below.refl _ _ | refine Below.alloc ?_ (by simp <;> omega) _)) (by simp <;> omega); have hx2 := (hb2.block w.heap.size (by simp <;> omega)).trans ((heap_old _ _ _ (by simp)).trans (heap_new _ _ _ rfl)); have hy2 := (hb2.block (w.heap.size + 1) (by simp <;> omega)).trans (heap_new _ _ _ (by simp)); obtain ⟨x0, x1, x2, x3, -, -, -, -⟩ := cells4 hx2; obtain ⟨v0, v1, v2, v3, -⟩ := hwb.cells; have hz2 : w.heap.size + 1 + 1 ≤ w2.heap.size := (by have := hb2.size; simpa using this); have HX2 := Lib.hid hx2; have HY2 := Lib.hid hy2; have HWB := Lib.hid hwb; have HOWN := Lib.hid hown; have HW2 := Lib.hid hw2; have hwl := hwb.lt; clear hx2 hy2 hwb hown hb2 hw2)
      | (go_at_call 28; refine (hbo.out _ HW2.out).mono ?_; rintro e w3 ⟨rfl, hb3⟩; have hw3 : Below w.heap.size w w3 := HW2.out.trans (hb3.mono (by omega)); have hwb3 := HWB.out.below hb3 hwl; obtain ⟨y0, y1, y2, y3, -⟩ := hwb3.cells; have hy3 := (hb3.block (w.heap.size + 1) (by omega)).trans HY2.out; obtain ⟨z0, z1, z2, z3, z4, z5, z6, z7⟩ := cells4 hy3; have hz3 := hb3.size; have hown3 := HOWN.out.below hb3; clear x0 x1 x2 x3 v0 v1 v2 v3))
    refine bodyPost_ret (v := .tuple #[.agg #[.int .i64 L, .int .i64 G, .bool H, .slice p' n c'], .slice none 0 0]) (by simp [results, Try.results18, go_sem, z0, z1, z2, z3]) rfl ⟨p', c', rfl, ?_, ?_⟩
    · obtain ⟨g', h1, h2⟩ := hown3.flat
      have h1' := h1.wide (show w.heap.size + 1 + 1 ≤ _ by simp) (Nat.le_refl _)
      exact ⟨p', c', g', 0, rfl, hcc, ((((h1'.far _ (.inl (by simp <;> omega))).far _ (.inl (by simp <;> omega))).far _ (.inl (by simp <;> omega))).far _ (.inl (by simp <;> omega))).wide (by omega) (by simp [World.setCell]), (((h2.set _ _).set _ _).set _ _).set _ _⟩
    · exact (((hw3.setCell (by simp <;> omega) _).setCell (by simp <;> omega) _).setCell (by simp <;> omega) _).setCell (by simp <;> omega) _
  · have hs : inB 0 2000 s = false := by
      rcases hbad with e | e
      · rw [hk] at e; cases e
      · exact e
    simp only [hk] at hbo
    have HS := Lib.hid hs
    clear hk hbad hs
    go_enter Try.func18, Try.ntmps18
    go_wp2_with (first
      | (go_at_call 79; refine (hwo.out _ (by repeat (first | exact Below.refl _ _ | refine Below.alloc ?_ (by simp <;> omega) _))).mono ?_; rintro e w2 ⟨gw, p', c', rfl, hcc, hgw, hwb, hown, hne, hb2⟩; have hw2 := below_via hb2 (B := w.heap.size) (w := w) (by repeat (first | exact Below.refl _ _ | refine Below.alloc ?_ (by simp <;> omega) _)) (by simp <;> omega); have hx2 := (hb2.block w.heap.size (by simp <;> omega)).trans ((heap_old _ _ _ (by simp)).trans (heap_new _ _ _ rfl)); have hy2 := (hb2.block (w.heap.size + 1) (by simp <;> omega)).trans (heap_new _ _ _ (by simp)); obtain ⟨x0, x1, x2, x3, -, -, -, -⟩ := cells4 hx2; obtain ⟨v0, v1, v2, v3, -⟩ := hwb.cells; have hz2 : w.heap.size + 1 + 1 ≤ w2.heap.size := (by have := hb2.size; simpa using this); have HX2 := Lib.hid hx2; have HY2 := Lib.hid hy2; have HWB := Lib.hid hwb; have HOWN := Lib.hid hown; have HW2 := Lib.hid hw2; have hwl := hwb.lt; clear hx2 hy2 hwb hown hb2 hw2)
      | (go_at_call 28; refine (hbo.out _ HW2.out).mono ?_; rintro e w3 ⟨rfl, hb3⟩; have hw3 : Below w.heap.size w w3 := HW2.out.trans (hb3.mono (by omega)); have hwb3 := HWB.out.below hb3 hwl; obtain ⟨y0, y1, y2, y3, -⟩ := hwb3.cells; have hy3 := (hb3.block (w.heap.size + 1) (by omega)).trans HY2.out; obtain ⟨z0, z1, z2, z3, z4, z5, z6, z7⟩ := cells4 hy3; have hz3 := hb3.size; have hown3 := HOWN.out.below hb3; clear x0 x1 x2 x3 v0 v1 v2 v3)
      | (go_at_call 80; refine (within_eq HS.out _).mono ?_; rintro e w' ⟨rfl, rfl⟩))
    refine bodyPost_ret (v := .tuple #[.agg #[.int .i64 L, .int .i64 G, .bool H, .slice p' n c'], .slice none 0 0]) (by simp [results, Try.results18, go_sem, z0, z1, z2, z3]) rfl ⟨p', c', rfl, ?_, ?_⟩
    · obtain ⟨g', h1, h2⟩ := hown3.flat
      have h1' := h1.wide (show w.heap.size + 1 + 1 ≤ _ by simp) (Nat.le_refl _)
      exact ⟨p', c', g', 0, rfl, hcc, ((((h1'.far _ (.inl (by simp <;> omega))).far _ (.inl (by simp <;> omega))).far _ (.inl (by simp <;> omega))).far _ (.inl (by simp <;> omega))).wide (by omega) (by simp [World.setCell]), (((h2.set _ _).set _ _).set _ _).set _ _⟩
    · exact (((hw3.setCell (by simp <;> omega) _).setCell (by simp <;> omega) _).setCell (by simp <;> omega) _).setCell (by simp <;> omega) _

theorem iRun_v (n : Nat) (hn : n ≤ 1048576) (z : Nat → Int) (p : Option Addr) (c : Nat) (L G : Int) (H : Bool) (s : Int) (w : World) (h : Rd w (.slice p n c) n (n * 3) z) :
    Calls Try.prog 18 #[.agg #[.int .i64 L, .int .i64 G, .bool H, .slice p n c], .int .i64 s] w fun e w' => ∃ p' c' v M, e = .returned (.tuple #[.agg #[.int .i64 L, .int .i64 G, .bool H, .slice p' (rnN L G H n z s) c'], v]) ∧ w.heap.size ≤ M ∧ M ≤ w'.heap.size ∧ Own w' w.heap.size M (.slice p' (rnN L G H n z s) c') (rnN L G H n z s) (rnN L G H n z s * 3) (rnZ L G H n z s) ∧ Own w' M w'.heap.size v (rnE L G H n z s) (rnE L G H n z s * 2) (rnX L G H n z s) ∧ Below w.heap.size w w' := by
  obtain ⟨p0, c0, g, o, e, hc, hf⟩ := h
  injection e with e1 _ e3
  subst e1; subst e3
  cases hk : rnOk L G n z s with
  | true =>
    have e1 : rnN L G H n z s = (ru L G H n z s.toNat).n := by unfold rnN; rw [if_pos hk]
    have e2 : rnZ L G H n z s = (ru L G H n z s.toNat).z := by unfold rnZ; rw [if_pos hk]
    have e3 : rnE L G H n z s = n - (ru L G H n z s.toNat).n := by unfold rnE; rw [if_pos hk]
    have e4 : rnX L G H n z s = fun j => (ru L G H n z s.toNat).l.getD j 0 := by unfold rnX; rw [if_pos hk]
    obtain ⟨hok, h0, h1⟩ := rn_ok (H := H) hk
    obtain ⟨S, rfl⟩ : ∃ S : Nat, s = (S : Int) := ⟨s.toNat, by omega⟩
    rw [e1, e2, e3, e4, Int.toNat_natCast]
    exact iRun_ok n z p c g o L G H S (by omega) w hf hc hok
  | false =>
    have ne : ¬ rnOk L G n z s = true := by rw [hk]; decide
    have e1 : rnN L G H n z s = n := by unfold rnN; rw [if_neg ne]
    have e2 : rnZ L G H n z s = z := by unfold rnZ; rw [if_neg ne]
    have e3 : rnE L G H n z s = 0 := by unfold rnE; rw [if_neg ne]
    have e4 : rnX L G H n z s = fun _ => 0 := by unfold rnX; rw [if_neg ne]
    rw [e1, e2, e3, e4]
    refine (iRun_bad n hn z p c g o L G H s w hf hc (rn_bad hk)).mono ?_
    rintro e w' ⟨p', c', he, h1, h2⟩
    exact ⟨p', c', _, w'.heap.size, he, h2.size, Nat.le_refl _, h1, ⟨_, _, 0, 0, rfl, Nat.le_refl _, FlatAt.zero _ _ _ _ _ _ _, fun j hj => absurd hj (by omega)⟩, h2⟩
theorem sRun_v (n : Nat) (hn : n ≤ 1048576) (z : Nat → Int) (p : Option Addr) (c : Nat) (L G : Int) (H : Bool) (s : Int) (w : World) (h : Rd w (.slice p n c) n (n * 3) z) :
    Calls Try.prog 16 #[.agg #[.int .i64 L, .int .i64 G, .bool H, .slice p n c], .int .i64 s] w fun e w' => ∃ p' c' v, e = .returned (.tuple #[.agg #[.int .i64 L, .int .i64 G, .bool H, .slice p' (rnN L G H n z s) c'], v]) ∧ Own w' w.heap.size w'.heap.size (.slice p' (rnN L G H n z s) c') (rnN L G H n z s) (rnN L G H n z s * 3) (rnZ L G H n z s) ∧ Own w' w.heap.size w'.heap.size v (rnE L G H n z s) (rnE L G H n z s * 2) (rnX L G H n z s) ∧ Below w.heap.size w w' := by
  obtain ⟨p0, c0, g, o, e, hc, hf⟩ := h
  injection e with e1 _ e3
  subst e1; subst e3
  cases hk : rnOk L G n z s with
  | true =>
    have e1 : rnN L G H n z s = (ru L G H n z s.toNat).n := by unfold rnN; rw [if_pos hk]
    have e2 : rnZ L G H n z s = (ru L G H n z s.toNat).z := by unfold rnZ; rw [if_pos hk]
    have e3 : rnE L G H n z s = n - (ru L G H n z s.toNat).n := by unfold rnE; rw [if_pos hk]
    have e4 : rnX L G H n z s = fun j => (ru L G H n z s.toNat).l.getD j 0 := by unfold rnX; rw [if_pos hk]
    obtain ⟨hok, h0, h1⟩ := rn_ok (H := H) hk
    obtain ⟨S, rfl⟩ : ∃ S : Nat, s = (S : Int) := ⟨s.toNat, by omega⟩
    rw [e1, e2, e3, e4, Int.toNat_natCast]
    exact sRun_ok n hn z p c g o L G H w hf S (by omega) hok
  | false =>
    have ne : ¬ rnOk L G n z s = true := by rw [hk]; decide
    have e1 : rnN L G H n z s = n := by unfold rnN; rw [if_neg ne]
    have e2 : rnZ L G H n z s = z := by unfold rnZ; rw [if_neg ne]
    have e3 : rnE L G H n z s = 0 := by unfold rnE; rw [if_neg ne]
    have e4 : rnX L G H n z s = fun _ => 0 := by unfold rnX; rw [if_neg ne]
    rw [e1, e2, e3, e4]
    exact sRun_bad n hn z p c g o L G H w hf s (rn_bad hk)

end Go.Proofs.Ytobcgidakbbhpab
