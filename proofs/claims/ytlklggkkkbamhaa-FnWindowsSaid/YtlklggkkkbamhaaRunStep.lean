/- A belt at work that is run: leave and step as contracts of one reading. -/
import Derived.Test.YtlklggkkkbamhaaRunPlain
import Derived.Test.YtlklggkkkbamhaaLeave
namespace Go.Proofs.Ytlklggkkkbamhaa
open Go.RowKit
set_option linter.unusedVariables false

/-- The belt at work in block gw holds r; its items lie in the blocks lo .. hi. -/
def RunAt (W : World) (gw lo hi : Nat) (L G : Int) (H : Bool) (n : Nat) (z : Nat → Int) : Prop :=
  ∃ p c g o, WB W gw L G H (.slice p n c) ∧ n ≤ c ∧ c ≤ maxLen ∧ FlatAt W lo hi p g o (n * 3) (fun j => .int .i64 (z j)) ∧ FreeAt W g o (n * 3) ∧ (0 < n → g ≠ gw)
theorem RunAt.keep {W W' : World} {gw lo hi : Nat} {L G : Int} {H : Bool} {n : Nat} {z : Nat → Int} (h : RunAt W gw lo hi L G H n z) (hg : gw < hi) (hk : ∀ k, k < hi → W'.heap[k]? = W.heap[k]?) : RunAt W' gw lo hi L G H n z := by
  obtain ⟨p, c, g, o, h1, h2, h3, h4, h5, h6⟩ := h
  exact ⟨p, c, g, o, h1.keep (hk gw hg), h2, h3, h4.keep (fun k _ hk2 => hk k hk2), fun j hj => (World.frozen?_of_block (a := ⟨g, o + j, none⟩) (hk g (h4.1 (by omega)).2.2)).trans (h5 j hj), h6⟩
theorem RunAt.below {W W' : World} {gw lo hi : Nat} {L G : Int} {H : Bool} {n : Nat} {z : Nat → Int} (h : RunAt W gw lo hi L G H n z) (hg : gw < hi) {B : Nat} (hb : Below B W W') (hB : hi ≤ B) : RunAt W' gw lo hi L G H n z := h.keep hg (fun k hk => hb.block k (by omega))

theorem leave_run_yes {W : World} {gw lo hi : Nat} {L G : Int} {H : Bool} {n : Nat} {z : Nat → Int} (hok : OkP L G n z) (h : RunAt W gw lo hi L G H n z) (hg : lo ≤ gw ∧ gw < hi) (hh : hi ≤ W.heap.size) (hl : lq L H n z = true) :
    Calls Try.prog 54 #[.pointer (some ⟨gw, 0, none⟩)] W fun e w' => e = .returned (.tuple #[.int .i64 (z 0), .bool true]) ∧ RunAt w' gw lo hi L G H (n - 1) (shZ z) ∧ Touch lo hi W w' := by
  obtain ⟨rfl, h0, hz⟩ := lq_yes hl
  obtain ⟨m, rfl⟩ : ∃ m, n = m + 1 := ⟨n - 1, by omega⟩
  obtain ⟨p, c, g, o, h1, h2, h3, h4, h5, h6⟩ := h
  have hm : m + 1 ≤ 40 := hok.2.2.1
  refine (leave_yes m (by unfold maxLen; omega) z p c g o lo hi L G gw W h1 h2 h3 h4 (h6 (by omega)) hz).mono ?_
  rintro e w' ⟨p', he, a1, a2, a3⟩
  have hgl := h4.1 (by omega)
  refine ⟨he, ⟨p', c - 1, g, o + 3, a1, by omega, by omega, a2, fun j hj => ?_, fun _ => h6 (by omega)⟩, Touch.of_grown a3 (fun k _ hk e => by injection e with e; omega)⟩
  have := (FreeAt.grown h5 a3 (fun _ => ⟨by omega, by intro e; injection e with e; exact h6 (by omega) e⟩)) (j + 3) (by omega)
  rw [show o + 3 + j = o + (j + 3) by omega]
  exact this
theorem leave_run_no {W : World} {gw lo hi : Nat} {L G : Int} {H : Bool} {n : Nat} {z : Nat → Int} (hok : OkP L G n z) (h : RunAt W gw lo hi L G H n z) (hg : lo ≤ gw ∧ gw < hi) (hh : hi ≤ W.heap.size) (hl : lq L H n z = false) :
    Calls Try.prog 54 #[.pointer (some ⟨gw, 0, none⟩)] W fun e w' => e = .returned (.tuple #[.int .i64 0, .bool false]) ∧ RunAt w' gw lo hi L G H n z ∧ Touch lo hi W w' := by
  have hr := h
  obtain ⟨p, c, g, o, h1, h2, h3, h4, h5, h6⟩ := h
  have hm : n ≤ 40 := hok.2.2.1
  refine (leave_no n (by unfold maxLen; omega) z p c g o lo hi L G H gw W h1 h4 (lq_no hl)).mono ?_
  rintro e w' ⟨he, hb⟩
  exact ⟨he, hr.below hg.2 hb hh, Touch.of_below hb⟩
theorem step_run {W : World} {gw lo hi : Nat} {L G : Int} {H : Bool} {n : Nat} {z : Nat → Int} (hok : OkP L G n z) (h : RunAt W gw lo hi L G H n z) (hg : lo ≤ gw ∧ gw < hi) (hh : hi ≤ W.heap.size) :
    Calls Try.prog 50 #[.pointer (some ⟨gw, 0, none⟩)] W fun e w' => e = .returned (.int .i64 (mvd L G z n : Nat)) ∧ RunAt w' gw lo hi L G H n (stZ L G z) ∧ Touch lo hi W w' := by
  obtain ⟨p, c, g, o, h1, h2, h3, h4, h5, h6⟩ := h
  refine (step_touch n z p c g o lo hi L G H gw W hok h1 h4 h5 hh h6).mono ?_
  rintro e w' ⟨he, a1, a2, a3, a4⟩
  exact ⟨he, ⟨p, c, g, o, a3, h2, h3, a1, a2, h6⟩, a4⟩

end Go.Proofs.Ytlklggkkkbamhaa
