/- What FreeBehind returns, the program's and the model's. -/
import Derived.Test.YtobcgidakbbhpabSBeltOk
import Derived.Test.YtobcgidakbbhpabBeltOkI
namespace Go.Proofs.Ytobcgidakbbhpab
open Go.RowKit

noncomputable def frB (L G : Int) (n : Nat) (z : Nat → Int) : Int := if okB L G n z = true then max 0 (lim L G z n) else -1
theorem okB_hid {L G : Int} {n : Nat} {z : Nat → Int} (h : okB L G n z = true) : Hid (OkP L G n z) := okB_iff.1 h

set_option maxRecDepth 100000 in
set_option maxHeartbeats 4000000 in
theorem sFree_any (n : Nat) (hn : n ≤ maxLen) (z : Nat → Int) (p : Option Addr) (c g o : Nat) (L G : Int) (H : Bool) (w : World) (h : FlatAt w 0 w.heap.size p g o (n * 3) (fun j => .int .i64 (z j))) :
    Calls Try.prog 44 #[.agg #[.int .i64 L, .int .i64 G, .bool H, .slice p n c]] w fun e w' => e = .returned (.int .i64 (frB L G n z)) ∧ Below w.heap.size w w' := by
  have hbo := Lib.hid (fun W (hb : Below w.heap.size w W) => sBeltOk_any n hn z p c g o L G H W ((h.below hb (Nat.le_refl _)).wide (Nat.zero_le _) hb.size))
  have HF := Lib.hid h
  have c3 := cellsItemS
  clear h
  unfold frB
  rcases Bool.eq_false_or_eq_true (okB L G n z) with hk | hk
  · have HP := okB_hid hk
    simp only [hk] at hbo
    rw [if_pos hk]
    clear hk
    have hn40 : n ≤ 40 := HP.out.2.2.1
    have hm := lim_lo HP.out (k := n) (Nat.le_refl _)
    cases n with
    | zero =>
      have hL := HP.out.1.1
      have e : max 0 (lim L G z 0) = L := by show max 0 L = L; omega
      rw [e]
      go_enter Try.func44, Try.ntmps44
      go_wp2_with (go_at_call 25; refine (hbo.out _ (by repeat (first | exact Below.refl _ _ | refine Below.alloc ?_ (by simp <;> omega) _ | refine Below.setCell ?_ (by simp <;> omega) _ | refine Below.drew ?_))).mono ?_; rintro e w2 ⟨rfl, hb2⟩; have hw2 := below_via hb2 (B := w.heap.size) (w := w) (by repeat (first | exact Below.refl _ _ | refine Below.alloc ?_ (by simp <;> omega) _ | refine Below.setCell ?_ (by simp <;> omega) _ | refine Below.drew ?_)) (by simp <;> omega); have hx2 := (hb2.block w.heap.size (by simp <;> omega)).trans (heap_new _ _ _ rfl); obtain ⟨x0, x1, x2, x3, -, -, -, -⟩ := cells4 hx2; have hz2 : w.heap.size + 1 ≤ w2.heap.size := (by have := hb2.size; simpa using this); have hlt2 : w.heap.size < w2.heap.size := (by omega); have hne2 : w2.heap.size ≠ w.heap.size := (by omega); have HX2 := Lib.hid hx2; have HW2 := Lib.hid hw2; clear hx2 hb2 hw2)
      go_ret
      exact ⟨rfl, HW2.out⟩
    | succ k =>
      obtain ⟨rfl, -, hg⟩ := HF.out.1 (by omega)
      obtain ⟨b1, b2, b3, b4, b5, b6⟩ := HP.out.front (k := k) (by omega)
      have hG := HP.out.2.1
      obtain ⟨g1, g2⟩ := hG
      have e : lim L G z (k + 1) = z (k * 3 + 1) - z (k * 3 + 2) - G := rfl
      rw [e]
      have HC := Lib.hid (fun W (hW : Below w.heap.size w W) => HF.out.at3 hW (Nat.le_refl _) k (by omega))
      obtain ⟨t0, ht0⟩ : ∃ x, x = z (k * 3) := ⟨_, rfl⟩
      obtain ⟨t1, ht1⟩ : ∃ x, x = z (k * 3 + 1) := ⟨_, rfl⟩
      obtain ⟨t2, ht2⟩ : ∃ x, x = z (k * 3 + 2) := ⟨_, rfl⟩
      rw [← ht0, ← ht1, ← ht2] at HC
      rw [← ht1] at b4 b5 b6 ⊢
      rw [← ht2] at b2 b3 b4 ⊢
      have hk1 : ((k + 1 : Nat) : Int) - 1 = (k : Int) := by omega
      have hk0 : (0 : Int) ≤ (k : Int) := by omega
      have hkn : (k : Int) < ((k + 1 : Nat) : Int) := by omega
      have hkb : (((k + 1 : Nat) : Int) == 0) = false := by simp; omega
      clear ht0 ht1 ht2 e hm
      obtain ⟨mx, hmx, hd⟩ : ∃ mx, mx = max 0 (t1 - t2 - G) ∧ ((t1 - t2 - G < 0 ∧ mx = 0) ∨ (0 ≤ t1 - t2 - G ∧ mx = t1 - t2 - G)) := ⟨_, rfl, by omega⟩
      rw [← hmx]
      clear hmx
      rcases hd with ⟨hneg, rfl⟩ | ⟨hpos, rfl⟩
      all_goals
        go_enter Try.func44, Try.ntmps44
        go_wp2_with (first | (go_at_call 25; refine (hbo.out _ (by repeat (first | exact Below.refl _ _ | refine Below.alloc ?_ (by simp <;> omega) _ | refine Below.setCell ?_ (by simp <;> omega) _ | refine Below.drew ?_))).mono ?_; rintro e w2 ⟨rfl, hb2⟩; have hw2 := below_via hb2 (B := w.heap.size) (w := w) (by repeat (first | exact Below.refl _ _ | refine Below.alloc ?_ (by simp <;> omega) _ | refine Below.setCell ?_ (by simp <;> omega) _ | refine Below.drew ?_)) (by simp <;> omega); have hx2 := (hb2.block w.heap.size (by simp <;> omega)).trans (heap_new _ _ _ rfl); obtain ⟨x0, x1, x2, x3, -, -, -, -⟩ := cells4 hx2; have hz2 : w.heap.size + 1 ≤ w2.heap.size := (by have := hb2.size; simpa using this); have hlt2 : w.heap.size < w2.heap.size := (by omega); have hne2 : w2.heap.size ≠ w.heap.size := (by omega); have HX2 := Lib.hid hx2; have HW2 := Lib.hid hw2; clear hx2 hb2 hw2; obtain ⟨a0, a1, a2⟩ := HC.out _ HW2.out))
        all_goals
          go_ret
          refine ⟨?_, HW2.out.alloc (by omega) _⟩
          first | rfl | (show Ending.returned (Value.int .i64 0) = _; congr 2; omega)
  · simp only [hk] at hbo
    rw [if_neg (by rw [hk]; decide)]
    clear hk
    go_enter Try.func44, Try.ntmps44
    go_wp2_with (go_at_call 25; refine (hbo.out _ (by repeat (first | exact Below.refl _ _ | refine Below.alloc ?_ (by simp <;> omega) _ | refine Below.setCell ?_ (by simp <;> omega) _ | refine Below.drew ?_))).mono ?_; rintro e w2 ⟨rfl, hb2⟩; have hw2 := below_via hb2 (B := w.heap.size) (w := w) (by repeat (first | exact Below.refl _ _ | refine Below.alloc ?_ (by simp <;> omega) _ | refine Below.setCell ?_ (by simp <;> omega) _ | refine Below.drew ?_)) (by simp <;> omega); have hx2 := (hb2.block w.heap.size (by simp <;> omega)).trans (heap_new _ _ _ rfl); obtain ⟨x0, x1, x2, x3, -, -, -, -⟩ := cells4 hx2; have hz2 : w.heap.size + 1 ≤ w2.heap.size := (by have := hb2.size; simpa using this); have hlt2 : w.heap.size < w2.heap.size := (by omega); have hne2 : w2.heap.size ≠ w.heap.size := (by omega); have HX2 := Lib.hid hx2; have HW2 := Lib.hid hw2; clear hx2 hb2 hw2)
    go_ret
    exact ⟨rfl, HW2.out⟩

set_option maxRecDepth 100000 in
set_option maxHeartbeats 4000000 in
theorem iFree_any (n : Nat) (hn : n ≤ maxLen) (z : Nat → Int) (p : Option Addr) (c g o : Nat) (L G : Int) (H : Bool) (w : World) (h : FlatAt w 0 w.heap.size p g o (n * 3) (fun j => .int .i64 (z j))) (hc : n ≤ c) :
    Calls Try.prog 43 #[.agg #[.int .i64 L, .int .i64 G, .bool H, .slice p n c]] w fun e w' => e = .returned (.int .i64 (frB L G n z)) ∧ Below w.heap.size w w' := by
  have hbo := Lib.hid (fun W (hb : Below w.heap.size w W) => iBeltOk_any n hn z p c g o L G H W ((h.below hb (Nat.le_refl _)).wide (Nat.zero_le _) hb.size) hc)
  have HF := Lib.hid h
  have c3 := cellsItemI
  clear h
  unfold frB
  rcases Bool.eq_false_or_eq_true (okB L G n z) with hk | hk
  · have HP := okB_hid hk
    simp only [hk] at hbo
    rw [if_pos hk]
    clear hk
    have hn40 : n ≤ 40 := HP.out.2.2.1
    have hm := lim_lo HP.out (k := n) (Nat.le_refl _)
    have hre := Lib.hid (fun W (hW : Below w.heap.size w W) (b : Nat) (hb : WB W b L G H (.slice p n c)) => reach_any n hn z p c g o L G H b W hb ((HF.out.below hW (Nat.le_refl _)).wide (Nat.zero_le _) hW.size) n (Nat.le_refl _) HP.out.2.1 (fun h0 => by have := HP.out.front (k := n - 1) (by omega); omega))
    obtain ⟨m, hmm⟩ : ∃ m, m = lim L G z n := ⟨_, rfl⟩
    rw [← hmm] at hre hm ⊢
    obtain ⟨hm0, hm1⟩ := hm
    clear hmm
    obtain ⟨mx, hmx, hd⟩ : ∃ mx, mx = max 0 m ∧ ((m < 0 ∧ mx = 0) ∨ (0 ≤ m ∧ mx = m)) := ⟨_, rfl, by omega⟩
    rw [← hmx]
    clear hmx
    rcases hd with ⟨hneg, rfl⟩ | ⟨hpos, rfl⟩
    all_goals
      go_enter Try.func43, Try.ntmps43
      go_wp2_with (first
        | (go_at_call 28; refine (hbo.out _ (by repeat (first | exact Below.refl _ _ | refine Below.alloc ?_ (by simp <;> omega) _ | refine Below.setCell ?_ (by simp <;> omega) _ | refine Below.drew ?_))).mono ?_; rintro e w2 ⟨rfl, hb2⟩; have hw2 := below_via hb2 (B := w.heap.size) (w := w) (by repeat (first | exact Below.refl _ _ | refine Below.alloc ?_ (by simp <;> omega) _ | refine Below.setCell ?_ (by simp <;> omega) _ | refine Below.drew ?_)) (by simp <;> omega); have hx2 := (hb2.block w.heap.size (by simp <;> omega)).trans (heap_new _ _ _ rfl); obtain ⟨x0, x1, x2, x3, -, -, -, -⟩ := cells4 hx2; have hz2 : w.heap.size + 1 ≤ w2.heap.size := (by have := hb2.size; simpa using this); have hlt2 : w.heap.size < w2.heap.size := (by omega); have hne2 : w2.heap.size ≠ w.heap.size := (by omega); have HX2 := Lib.hid hx2; have HW2 := Lib.hid hw2; clear hx2 hb2 hw2)
        | (go_at_call 88; refine (hre.out _ (HW2.out.alloc (by omega) _) w2.heap.size (heap_new _ _ _ rfl)).mono ?_; rintro e w3 ⟨rfl, hb3⟩))
      all_goals
        go_ret
        refine ⟨?_, below_via hb3 (HW2.out.alloc (by omega) _) (by simp <;> omega)⟩
        first | rfl | (show Ending.returned (Value.int .i64 0) = _; congr 2; omega)
  · simp only [hk] at hbo
    rw [if_neg (by rw [hk]; decide)]
    clear hk
    go_enter Try.func43, Try.ntmps43
    go_wp2_with (go_at_call 28; refine (hbo.out _ (by repeat (first | exact Below.refl _ _ | refine Below.alloc ?_ (by simp <;> omega) _ | refine Below.setCell ?_ (by simp <;> omega) _ | refine Below.drew ?_))).mono ?_; rintro e w2 ⟨rfl, hb2⟩; have hw2 := below_via hb2 (B := w.heap.size) (w := w) (by repeat (first | exact Below.refl _ _ | refine Below.alloc ?_ (by simp <;> omega) _ | refine Below.setCell ?_ (by simp <;> omega) _ | refine Below.drew ?_)) (by simp <;> omega); have hx2 := (hb2.block w.heap.size (by simp <;> omega)).trans (heap_new _ _ _ rfl); obtain ⟨x0, x1, x2, x3, -, -, -, -⟩ := cells4 hx2; have hz2 : w.heap.size + 1 ≤ w2.heap.size := (by have := hb2.size; simpa using this); have hlt2 : w.heap.size < w2.heap.size := (by omega); have hne2 : w2.heap.size ≠ w.heap.size := (by omega); have HX2 := Lib.hid hx2; have HW2 := Lib.hid hw2; clear hx2 hb2 hw2)
    go_ret
    exact ⟨rfl, HW2.out⟩

end Go.Proofs.Ytobcgidakbbhpab
