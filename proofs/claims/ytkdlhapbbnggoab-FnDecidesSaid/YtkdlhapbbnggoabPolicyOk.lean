/- What the program's and the model's PolicyOk return. -/
import Derived.Test.YtkdlhapbbnggoabIn
import Derived.Test.YtkdlhapbbnggoabScrPlain
import Derived.Test.YtkdlhapbbnggoabLater
import Derived.Test.YtkdlhapbbnggoabOwnV
import Derived.Deep.LoopGhost
namespace Go.Proofs.Ytkdlhapbbnggoab
open Go.RowKit
set_option linter.unusedVariables false

theorem below_box {B : Nat} {w : World} (h : B ≤ w.heap.size) (o : Obj) : Below B w (w.alloc o) := (Below.refl _ _).alloc h _

set_option maxRecDepth 100000 in
set_option maxHeartbeats 1000000 in
theorem iPolicyOk_any (n : Nat) (z : Nat → Int) (p : Option Addr) (c g o : Nat) (w : World) (h : FlatAt w 0 w.heap.size p g o n (fun j => .int .i64 (z j))) :
    Calls Try.prog 57 #[.agg #[.slice p n c]] w fun e w' => e = .returned (.bool (poB n z)) ∧ Below w.heap.size w w' := by
  have HF := Lib.hid h
  clear h
  by_cases h3 : n = 3
  · subst h3
    go_enter Try.func57, Try.ntmps57
    go_wp2_with fail
    go_loopw [12] (fun v wr => ∃ k : Nat, k ≤ 3 ∧ v = .int .i64 (k : Int) ∧ Below w.heap.size w wr ∧ Hid (∀ j, j < k → 1 ≤ z j ∧ z j ≤ 5000)) (fun v _ => 3 - (intOf v).toNat)
    case atStart => exact ⟨0, by omega, rfl, below_box (Nat.le_refl _) _, fun j hj => absurd hj (by omega)⟩
    case round =>
      obtain ⟨k, hk, rfl, hbw, HN⟩ := hrel
      by_cases hkn : k < 3
      · obtain ⟨rfl, -, hg⟩ := HF.out.1 (by omega)
        have a0 := (hbw.cell (p := ⟨g, o + k, none⟩) hg).trans (HF.out.int k (by omega))
        have hk0 : (0 : Int) ≤ (k : Int) := by omega
        have hkl : (k : Int) < (3 : Int) := by omega
        obtain ⟨x0, hx0⟩ : ∃ x, x = z k := ⟨_, rfl⟩
        rw [← hx0] at a0
        rcases Bool.eq_false_or_eq_true (inB 1 5000 x0) with b1 | b1
        rotate_left
        · have HE : Hid (poB 3 z = false) := poB_no (fun h => inB_no.1 b1 (by rw [hx0]; exact h.2 k hkn))
          have B1 := Lib.hid b1
          clear b1 hx0
          go_wp2_with (go_at_call 73; refine (within_at B1.out _).mono ?_; rintro e w' ⟨rfl, rfl⟩)
          go_ret
          exact ⟨(congrArg (fun b => Ending.returned (Value.bool b)) HE.out).symm, hbw⟩
        · have HX : Hid (1 ≤ z k ∧ z k ≤ 5000) := by rw [← hx0]; exact inB_iff.1 b1
          have B1 := Lib.hid b1
          clear b1 hx0
          go_wp2_with (go_at_call 73; refine (within_at B1.out _).mono ?_; rintro e w' ⟨rfl, rfl⟩)
          go_roundw
          case rel => exact ⟨k + 1, by omega, by congr 1, hbw, fun j hj => by
            by_cases e : j = k
            · subst e; exact HX.out
            · exact HN.out j (by omega)⟩
          case measure => simp only [intOf]; omega
      · obtain rfl : k = 3 := by omega
        have HE : Hid (poB 3 z = true) := poB_yes ⟨rfl, HN.out⟩
        go_wp2_with fail
        go_ret
        exact ⟨(congrArg (fun b => Ending.returned (Value.bool b)) HE.out).symm, hbw⟩
  · have HE : Hid (poB n z = false) := poB_no (fun h => h3 h.1)
    have h3' : ((n : Int) != 3) = true := by simpa using (show ¬ (n : Int) = 3 by omega)
    go_enter Try.func57, Try.ntmps57
    go_wp2_with fail
    go_ret
    exact ⟨(congrArg (fun b => Ending.returned (Value.bool b)) HE.out).symm, below_box (Nat.le_refl _) _⟩

set_option maxRecDepth 100000 in
set_option maxHeartbeats 1000000 in
theorem sPolicyOk_any (n : Nat) (z : Nat → Int) (p : Option Addr) (c g o : Nat) (w : World) (h : FlatAt w 0 w.heap.size p g o n (fun j => .int .i64 (z j))) :
    Calls Try.prog 97 #[.agg #[.slice p n c]] w fun e w' => e = .returned (.bool (poB n z)) ∧ Below w.heap.size w w' := by
  have HF := Lib.hid h
  clear h
  by_cases h3 : n = 3
  · subst h3
    go_enter Try.func97, Try.ntmps97
    go_wp2_with fail
    go_loopw [3] (fun v wr => ∃ k : Nat, k ≤ 3 ∧ v = .int .i64 (k : Int) ∧ wr.heap[w.heap.size]? = some (.cells #[.slice p 3 c] 69 (0, 0)) ∧ Below w.heap.size w wr ∧ Hid (∀ j, j < k → 1 ≤ z j ∧ z j ≤ 5000)) (fun v _ => 3 - (intOf v).toNat)
    case atStart => exact ⟨0, by omega, rfl, heap_new _ _ _ rfl, below_box (Nat.le_refl _) _, fun j hj => absurd hj (by omega)⟩
    case round =>
      obtain ⟨k, hk, rfl, hbl, hbw, HN⟩ := hrel
      have c0 : wr.cell? ⟨w.heap.size, 0, none⟩ = some (.slice p 3 c) := by rw [cell_of_row wr _ _ _ _ _ hbl]; rfl
      by_cases hkn : k < 3
      · obtain ⟨rfl, -, hg⟩ := HF.out.1 (by omega)
        have a0 := (hbw.cell (p := ⟨g, o + k, none⟩) hg).trans (HF.out.int k (by omega))
        have hk0 : (0 : Int) ≤ (k : Int) := by omega
        have hkl : (k : Int) < (3 : Int) := by omega
        obtain ⟨x0, hx0⟩ : ∃ x, x = z k := ⟨_, rfl⟩
        rw [← hx0] at a0
        have HBL := Lib.hid hbl
        clear hbl
        rcases Bool.eq_false_or_eq_true (inB 1 5000 x0) with b1 | b1
        rotate_left
        · have HE : Hid (poB 3 z = false) := poB_no (fun h => inB_no.1 b1 (by rw [hx0]; exact h.2 k hkn))
          have B1 := Lib.hid b1
          clear b1 hx0
          go_wp2_with (go_at_call 76; refine (specIn_at B1.out _).mono ?_; rintro e w' ⟨rfl, rfl⟩)
          go_ret
          exact ⟨(congrArg (fun b => Ending.returned (Value.bool b)) HE.out).symm, hbw⟩
        · have HX : Hid (1 ≤ z k ∧ z k ≤ 5000) := by rw [← hx0]; exact inB_iff.1 b1
          have B1 := Lib.hid b1
          clear b1 hx0
          go_wp2_with (go_at_call 76; refine (specIn_at B1.out _).mono ?_; rintro e w' ⟨rfl, rfl⟩)
          go_roundw
          case rel => exact ⟨k + 1, by omega, by congr 1, HBL.out, hbw, fun j hj => by
            by_cases e : j = k
            · subst e; exact HX.out
            · exact HN.out j (by omega)⟩
          case measure => simp only [intOf]; omega
      · obtain rfl : k = 3 := by omega
        have HE : Hid (poB 3 z = true) := poB_yes ⟨rfl, HN.out⟩
        clear hbl
        go_wp2_with fail
        go_ret
        exact ⟨(congrArg (fun b => Ending.returned (Value.bool b)) HE.out).symm, hbw⟩
  · have HE : Hid (poB n z = false) := poB_no (fun h => h3 h.1)
    have h3' : ((n : Int) != 3) = true := by simpa using (show ¬ (n : Int) = 3 by omega)
    go_enter Try.func97, Try.ntmps97
    go_wp2_with fail
    go_ret
    exact ⟨(congrArg (fun b => Ending.returned (Value.bool b)) HE.out).symm, below_box (Nat.le_refl _) _⟩

theorem iPolicyOk_v {n : Nat} {z : Nat → Int} {v : Value} {t : Bool} (ht : poB n z = t) {w : World} (h : Rd w v n n z) :
    Calls Try.prog 57 #[.agg #[v]] w fun e w' => e = .returned (.bool t) ∧ Below w.heap.size w w' := by
  obtain ⟨p, c, g, o, rfl, -, h⟩ := h
  rw [← ht]
  exact iPolicyOk_any n z p c g o w h
theorem sPolicyOk_v {n : Nat} {z : Nat → Int} {v : Value} {t : Bool} (ht : poB n z = t) {w : World} (h : Rd w v n n z) :
    Calls Try.prog 97 #[.agg #[v]] w fun e w' => e = .returned (.bool t) ∧ Below w.heap.size w w' := by
  obtain ⟨p, c, g, o, rfl, -, h⟩ := h
  rw [← ht]
  exact sPolicyOk_any n z p c g o w h

end Go.Proofs.Ytkdlhapbbnggoab
