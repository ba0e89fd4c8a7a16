/- What CoverAt returns, the program's and the model's. -/
import Derived.Test.YtobcgidakbbhpabSBeltOk
import Derived.Test.YtobcgidakbbhpabBeltOkI
namespace Go.Proofs.Ytobcgidakbbhpab
open Go.RowKit
set_option linter.unusedVariables false

/-- Item k covers the place. -/
def Cov (z : Nat → Int) (place : Int) (k : Nat) : Prop := z (k * 3 + 1) - z (k * 3 + 2) < place ∧ place ≤ z (k * 3 + 1)
open Classical in
noncomputable def cvF (z : Nat → Int) (place : Int) : Nat → Int
  | 0 => 0
  | n + 1 => if ∃ k, k < n ∧ Cov z place k then cvF z place n else if Cov z place n then z (n * 3) else 0
theorem cvF_none {z : Nat → Int} {place : Int} : ∀ n, (∀ k, k < n → ¬ Cov z place k) → cvF z place n = 0
  | 0, _ => rfl
  | n + 1, h => by
    unfold cvF
    rw [if_neg (fun ⟨k, hk, hc⟩ => h k (by omega) hc), if_neg (h n (by omega))]
theorem cvF_at {z : Nat → Int} {place : Int} {k : Nat} (hc : Cov z place k) (hb : ∀ j, j < k → ¬ Cov z place j) : ∀ n, k < n → cvF z place n = z (k * 3)
  | 0, h => absurd h (by omega)
  | n + 1, h => by
    unfold cvF
    by_cases e : k = n
    · subst e
      rw [if_neg (fun ⟨j, hj, hc'⟩ => hb j hj hc'), if_pos hc]
    · rw [if_pos ⟨k, by omega, hc⟩]
      exact cvF_at hc hb n (by omega)
noncomputable def cvB (L G : Int) (n : Nat) (z : Nat → Int) (place : Int) : Int := if okB L G n z = true then cvF z place n else 0

set_option maxRecDepth 100000 in
set_option maxHeartbeats 4000000 in
theorem iCover_any (n : Nat) (hn : n ≤ maxLen) (z : Nat → Int) (p : Option Addr) (c g o : Nat) (L G : Int) (H : Bool) (s0 : Int) (ws0 : (Lit.int .i64 s0).wf = true) (w : World) (h : FlatAt w 0 w.heap.size p g o (n * 3) (fun j => .int .i64 (z j))) (hc : n ≤ c) :
    Calls Try.prog 45 #[.agg #[.int .i64 L, .int .i64 G, .bool H, .slice p n c], .int .i64 s0] w fun e w' => e = .returned (.int .i64 (cvB L G n z s0)) ∧ Below w.heap.size w w' := by
  have hbo := Lib.hid (fun W (hb : Below w.heap.size w W) => iBeltOk_any n hn z p c g o L G H W ((h.below hb (Nat.le_refl _)).wide (Nat.zero_le _) hb.size) hc)
  have HF := Lib.hid h
  have c3 := cellsItemI
  clear h
  unfold cvB
  rcases Bool.eq_false_or_eq_true (okB L G n z) with hk | hk
  · have HP : Hid (OkP L G n z) := okB_iff.1 hk
    simp only [hk] at hbo
    rw [if_pos hk]
    have hn40 : n ≤ 40 := HP.out.2.2.1
    clear hk
    go_enter Try.func45, Try.ntmps45
    go_wp2_with (go_at_call 28; refine (hbo.out _ (by repeat (first | exact Below.refl _ _ | refine Below.alloc ?_ (by simp <;> omega) _ | refine Below.setCell ?_ (by simp <;> omega) _ | refine Below.drew ?_))).mono ?_; rintro e w2 ⟨rfl, hb2⟩; have hw2 := below_via hb2 (B := w.heap.size) (w := w) (by repeat (first | exact Below.refl _ _ | refine Below.alloc ?_ (by simp <;> omega) _ | refine Below.setCell ?_ (by simp <;> omega) _ | refine Below.drew ?_)) (by simp <;> omega); have hx2 := (hb2.block w.heap.size (by simp <;> omega)).trans (heap_new _ _ _ rfl); obtain ⟨x0, x1, x2, x3, -, -, -, -⟩ := cells4 hx2; have hz2 : w.heap.size + 1 ≤ w2.heap.size := (by have := hb2.size; simpa using this); have hlt2 : w.heap.size < w2.heap.size := (by omega); have hne2 : w2.heap.size ≠ w.heap.size := (by omega); have HX2 := Lib.hid hx2; have HW2 := Lib.hid hw2; clear hx2 hb2 hw2)
    obtain ⟨wz, hwz⟩ : ∃ wz, wz = w2 := ⟨_, rfl⟩
    go_loopw [13] (fun v wr => ∃ k : Nat, k ≤ n ∧ v = .int .i64 (k : Int) ∧ Below w.heap.size w wr ∧ wr.heap[w.heap.size]? = some (.cells #[.int .i64 L, .int .i64 G, .bool H, .slice p n c] 28 (0, 0)) ∧ w.heap.size + 1 ≤ wr.heap.size ∧ Hid (∀ j, j < k → ¬ Cov z s0 j)) (fun v _ => n - (intOf v).toNat)
    case atStart => exact ⟨0, by omega, rfl, HW2.out, HX2.out, hz2, fun j hj => absurd hj (by omega)⟩
    case round =>
      obtain ⟨k, hk, rfl, h1, h2, h3, HN⟩ := hrel
      obtain ⟨x0, x1, x2, x3, -, -, -, -⟩ := cells4 h2
      have H2 := Lib.hid h2
      clear h2
      by_cases hkn : k < n
      · obtain ⟨rfl, -, hg⟩ := HF.out.1 (by omega)
        obtain ⟨a0, a1, a2⟩ := HF.out.at3 h1 (Nat.le_refl _) k (by omega)
        obtain ⟨b1, b2, b3, b4, b5, b6⟩ := HP.out.front hkn
        have hk0 : (0 : Int) ≤ (k : Int) := by omega
        have hkl : (k : Int) < (n : Int) := by omega
        obtain ⟨t0, ht0⟩ : ∃ x, x = z (k * 3) := ⟨_, rfl⟩
        obtain ⟨t1, ht1⟩ : ∃ x, x = z (k * 3 + 1) := ⟨_, rfl⟩
        obtain ⟨t2, ht2⟩ : ∃ x, x = z (k * 3 + 2) := ⟨_, rfl⟩
        have HT0 := Lib.hid ht0
        have hcov : Cov z s0 k ↔ t1 - t2 < s0 ∧ s0 ≤ t1 := by rw [ht1, ht2]; exact Iff.rfl
        have HCOV := Lib.hid hcov
        rw [← ht0] at a0
        rw [← ht1] at a1 b4 b5 b6
        rw [← ht2] at a2 b2 b3 b4
        clear ht0 ht1 ht2 hcov
        have H1 := Lib.hid h1
        clear h1
        by_cases c1 : s0 ≤ t1
        · have d1 : decide (s0 ≤ t1) = true := decide_eq_true c1
          by_cases c2 : t1 - t2 < s0
          · have d2 : decide (t1 - t2 < s0) = true := decide_eq_true c2
            have HE : Hid (cvF z s0 n = t0) := by rw [HT0.out]; exact cvF_at (HCOV.out.2 ⟨c2, c1⟩) HN.out n hkn
            have hin : Hid (inB (t1 - t2 + 1) t1 s0 = true) := inB_iff.2 ⟨by omega, by omega⟩
            go_wp2_with (go_at_call 80; refine (within_at hin.out _).mono ?_; rintro e w4 ⟨rfl, rfl⟩)
            go_ret
            exact ⟨(congrArg (fun b => Ending.returned (Value.int .i64 b)) HE.out).symm, H1.out.alloc (by omega) _⟩
          · have d2 : decide (t1 - t2 < s0) = false := decide_eq_false c2
            have HE : Hid (¬ Cov z s0 k) := fun h => c2 (HCOV.out.1 h).1
            have hin : Hid (inB (t1 - t2 + 1) t1 s0 = false) := inB_no.2 (by omega)
            go_wp2_with (go_at_call 80; refine (within_at hin.out _).mono ?_; rintro e w4 ⟨rfl, rfl⟩)
            go_roundw
            case rel => exact ⟨k + 1, by omega, by congr 1, H1.out.alloc (by omega) _, (heap_old _ _ _ (by omega)).trans H2.out, by simp; omega, fun j hj => by
              by_cases e : j = k
              · subst e; exact HE.out
              · exact HN.out j (by omega)⟩
            case measure => simp only [intOf]; omega
        · have d1 : decide (s0 ≤ t1) = false := decide_eq_false c1
          have HE : Hid (¬ Cov z s0 k) := fun h => c1 (HCOV.out.1 h).2
          have hin : Hid (inB (t1 - t2 + 1) t1 s0 = false) := inB_no.2 (by omega)
          go_wp2_with (go_at_call 80; refine (within_at hin.out _).mono ?_; rintro e w4 ⟨rfl, rfl⟩)
          go_roundw
          case rel => exact ⟨k + 1, by omega, by congr 1, H1.out.alloc (by omega) _, (heap_old _ _ _ (by omega)).trans H2.out, by simp; omega, fun j hj => by
            by_cases e : j = k
            · subst e; exact HE.out
            · exact HN.out j (by omega)⟩
          case measure => simp only [intOf]; omega
      · obtain rfl : k = n := by omega
        have HE : Hid (cvF z s0 k = 0) := cvF_none k HN.out
        have H1 := Lib.hid h1
        clear h1
        go_wp2_with fail
        go_ret
        exact ⟨(congrArg (fun b => Ending.returned (Value.int .i64 b)) HE.out).symm, H1.out⟩
  · simp only [hk] at hbo
    rw [if_neg (by rw [hk]; decide)]
    clear hk
    go_enter Try.func45, Try.ntmps45
    go_wp2_with (go_at_call 28; refine (hbo.out _ (by repeat (first | exact Below.refl _ _ | refine Below.alloc ?_ (by simp <;> omega) _ | refine Below.setCell ?_ (by simp <;> omega) _ | refine Below.drew ?_))).mono ?_; rintro e w2 ⟨rfl, hb2⟩; have hw2 := below_via hb2 (B := w.heap.size) (w := w) (by repeat (first | exact Below.refl _ _ | refine Below.alloc ?_ (by simp <;> omega) _ | refine Below.setCell ?_ (by simp <;> omega) _ | refine Below.drew ?_)) (by simp <;> omega); have hx2 := (hb2.block w.heap.size (by simp <;> omega)).trans (heap_new _ _ _ rfl); obtain ⟨x0, x1, x2, x3, -, -, -, -⟩ := cells4 hx2; have hz2 : w.heap.size + 1 ≤ w2.heap.size := (by have := hb2.size; simpa using this); have hlt2 : w.heap.size < w2.heap.size := (by omega); have hne2 : w2.heap.size ≠ w.heap.size := (by omega); have HX2 := Lib.hid hx2; have HW2 := Lib.hid hw2; clear hx2 hb2 hw2)
    go_ret
    exact ⟨rfl, HW2.out⟩

end Go.Proofs.Ytobcgidakbbhpab
