/- What the program's and the model's ImagesOk return. -/
import Derived.Test.YtkdlhapbbnggoaaIn
import Derived.Test.YtkdlhapbbnggoaaSrvPlain
import Derived.Test.YtkdlhapbbnggoaaLater
import Derived.Test.YtkdlhapbbnggoaaOwnV
import Derived.Test.YtkdlhapbbnggoaaRowImage
import Derived.Deep.LoopGhost
namespace Go.Proofs.Ytkdlhapbbnggoaa
open Go.RowKit
set_option linter.unusedVariables false

set_option maxRecDepth 100000 in
set_option maxHeartbeats 4000000 in
theorem iImagesOk_any (n : Nat) (hn : n ≤ maxLen) (s : Nat → Int) (p : Option Addr) (c g o : Nat) (w : World) (h : FlatAt w 0 w.heap.size p g o (n * 2) (fun j => .int .i64 (s j))) :
    Calls Try.prog 33 #[.slice p n c] w fun e w' => e = .returned (.bool (imB n s)) ∧ Below w.heap.size w w' := by
  unfold maxLen at hn
  have c3 := cellsImage
  have HF := Lib.hid h
  clear h
  by_cases h3 : n ≤ 16
  · go_enter Try.func33, Try.ntmps33
    go_wp2_with fail
    go_loopw [3, 11] (fun ea v wr => ∃ k : Nat, k ≤ n ∧ v = .int .i64 (k : Int) ∧ ea = .int .i64 (prA s k) ∧ Below w.heap.size w wr ∧ Hid (∀ j, j < k → okI s j)) (fun _ v _ => n - (intOf v).toNat)
    case atStart => exact ⟨0, by omega, rfl, rfl, Below.refl _ _, fun j hj => absurd hj (by omega)⟩
    case round =>
      obtain ⟨k, hk, rfl, rfl, hbw, HN⟩ := hrel
      by_cases hkn : k < n
      · obtain ⟨rfl, -, hg⟩ := HF.out.1 (by omega)
        obtain ⟨a0, a1⟩ := HF.out.at2 hbw (Nat.le_refl _) k (by omega)
        have hk0 : (0 : Int) ≤ (k : Int) := by omega
        have hkl : (k : Int) < (n : Int) := by omega
        have hnk : ∀ X : okI s k → False, imB n s = false := fun X => imB_no (fun h => X (h.2 k hkn))
        obtain ⟨pt, hpt⟩ : ∃ x, x = prA s k := ⟨_, rfl⟩
        obtain ⟨x0, hx0⟩ : ∃ x, x = s (k * 2) := ⟨_, rfl⟩
        obtain ⟨x1, hx1⟩ : ∃ x, x = s (k * 2 + 1) := ⟨_, rfl⟩
        have hok : okI s k ↔ (pt ≤ x0 ∧ x0 ≤ 100000) ∧ (1 ≤ x1 ∧ x1 ≤ 5000) := by rw [hpt, hx0, hx1]; exact Iff.rfl
        have hnx : prA s (k + 1) = x0 := by rw [hx0]; rfl
        rw [← hpt]
        rw [← hx0] at a0
        rw [← hx1] at a1
        have HNX := Lib.hid hnx
        have HOK := Lib.hid hok
        have HNK := Lib.hid hnk
        clear hx0 hx1 hpt hok hnk hnx
        rcases Bool.eq_false_or_eq_true (inB pt 100000 x0) with b1 | b1
        rotate_left
        · have HE : Hid (imB n s = false) := HNK.out (fun h => by have := (HOK.out.1 h); have := inB_no.1 b1; omega)
          have B1 := Lib.hid b1
          clear b1 HNK HOK
          go_wp2_with (go_at_call 54; with_reducible refine (within_at B1.out _).mono ?_; rintro e w' ⟨rfl, rfl⟩)
          go_ret
          exact ⟨(congrArg (fun b => Ending.returned (Value.bool b)) HE.out).symm, hbw.alloc hbw.size _⟩
        rcases Bool.eq_false_or_eq_true (inB 1 5000 x1) with b2 | b2
        rotate_left
        · have HE : Hid (imB n s = false) := HNK.out (fun h => by have := (HOK.out.1 h); have := inB_no.1 b2; omega)
          have B1 := Lib.hid b1
          have B2 := Lib.hid b2
          clear b1 b2 HNK HOK
          go_wp2_with (first | (go_at_call 54; with_reducible refine (within_at B1.out _).mono ?_; rintro e w' ⟨rfl, rfl⟩) | (go_at_call 54; with_reducible refine (within_at B2.out _).mono ?_; rintro e w' ⟨rfl, rfl⟩))
          go_ret
          exact ⟨(congrArg (fun b => Ending.returned (Value.bool b)) HE.out).symm, hbw.alloc hbw.size _⟩
        · have HOKT : Hid (okI s k) := HOK.out.2 ⟨inB_iff.1 b1, inB_iff.1 b2⟩
          have B1 := Lib.hid b1
          have B2 := Lib.hid b2
          clear b1 b2 HNK HOK
          go_wp2_with (first | (go_at_call 54; with_reducible refine (within_at B1.out _).mono ?_; rintro e w' ⟨rfl, rfl⟩) | (go_at_call 54; with_reducible refine (within_at B2.out _).mono ?_; rintro e w' ⟨rfl, rfl⟩))
          go_roundw
          case rel => exact ⟨k + 1, by omega, by congr 1, by rw [HNX.out], hbw.alloc hbw.size _, fun i hi => by
            by_cases e : i = k
            · subst e; exact HOKT.out
            · exact HN.out i (by omega)⟩
          case measure => simp only [intOf]; omega
      · obtain rfl : k = n := by omega
        have HE : Hid (imB k s = true) := imB_yes ⟨h3, HN.out⟩
        go_wp2_with fail
        go_ret
        exact ⟨(congrArg (fun b => Ending.returned (Value.bool b)) HE.out).symm, hbw⟩
  · have HE : Hid (imB n s = false) := imB_no (fun h => h3 h.1)
    go_enter Try.func33, Try.ntmps33
    go_wp2_with fail
    go_ret
    exact ⟨(congrArg (fun b => Ending.returned (Value.bool b)) HE.out).symm, Below.refl _ _⟩

set_option maxRecDepth 100000 in
set_option maxHeartbeats 4000000 in
theorem sImagesOk_any (n : Nat) (hn : n ≤ maxLen) (s : Nat → Int) (p : Option Addr) (c g o : Nat) (w : World) (h : FlatAt w 0 w.heap.size p g o (n * 2) (fun j => .int .i64 (s j))) :
    Calls Try.prog 31 #[.slice p n c] w fun e w' => e = .returned (.bool (imB n s)) ∧ Below w.heap.size w w' := by
  unfold maxLen at hn
  have c3 := cellsImage
  have HF := Lib.hid h
  clear h
  by_cases h3 : n ≤ 16
  · go_enter Try.func31, Try.ntmps31
    go_wp2_with fail
    go_loopw [3] (fun v wr => ∃ k : Nat, k ≤ n ∧ v = .int .i64 (k : Int) ∧ Below w.heap.size w wr ∧ Hid (∀ j, j < k → okI s j)) (fun v _ => n - (intOf v).toNat)
    case atStart => exact ⟨0, by omega, rfl, Below.refl _ _, fun j hj => absurd hj (by omega)⟩
    case round =>
      obtain ⟨k, hk, rfl, hbw, HN⟩ := hrel
      by_cases hkn : k < n
      · obtain ⟨rfl, -, hg⟩ := HF.out.1 (by omega)
        obtain ⟨a0, a1⟩ := HF.out.at2 hbw (Nat.le_refl _) k (by omega)
        have hk0 : (0 : Int) ≤ (k : Int) := by omega
        have hkl : (k : Int) < (n : Int) := by omega
        have hnk : ∀ X : okI s k → False, imB n s = false := fun X => imB_no (fun h => X (h.2 k hkn))
        have hps : 0 < k → ∃ i, k = i + 1 ∧ prA s k = s (i * 2) := fun h => ⟨k - 1, by omega, by obtain ⟨i, rfl⟩ : ∃ i, k = i + 1 := ⟨k - 1, by omega⟩; rfl⟩
        have hp0 := prA_lo k HN.out
        obtain ⟨pt, hpt⟩ : ∃ x, x = prA s k := ⟨_, rfl⟩
        obtain ⟨x0, hx0⟩ : ∃ x, x = s (k * 2) := ⟨_, rfl⟩
        obtain ⟨x1, hx1⟩ : ∃ x, x = s (k * 2 + 1) := ⟨_, rfl⟩
        have hz0 : k = 0 → pt = 0 := by rintro rfl; exact hpt
        have hok : okI s k ↔ (pt ≤ x0 ∧ x0 ≤ 100000) ∧ (1 ≤ x1 ∧ x1 ≤ 5000) := by rw [hpt, hx0, hx1]; exact Iff.rfl
        rw [← hpt] at hp0 hps
        rw [← hx0] at a0
        rw [← hx1] at a1
        have HOK := Lib.hid hok
        have HNK := Lib.hid hnk
        have HPS := Lib.hid hps
        clear hx0 hx1 hpt hok hnk hps
        rcases Bool.eq_false_or_eq_true (inB 0 100000 x0) with b1 | b1
        rotate_left
        · have HE : Hid (imB n s = false) := HNK.out (fun h => by have := (HOK.out.1 h); have := inB_no.1 b1; omega)
          have B1 := Lib.hid b1
          clear b1 HNK HOK HPS hz0
          go_wp2_with fail
          go_quiet ((go_at_call 52; exact Calls.quiet_of_same (specIn_eq B1.out _)))
          go_wp2_with fail
          go_ret
          exact ⟨(congrArg (fun b => Ending.returned (Value.bool b)) HE.out).symm, below_drewN' hbw _⟩
        rcases Bool.eq_false_or_eq_true (inB 1 5000 x1) with b2 | b2
        rotate_left
        · have HE : Hid (imB n s = false) := HNK.out (fun h => by have := (HOK.out.1 h); have := inB_no.1 b2; omega)
          have B1 := Lib.hid b1
          have B2 := Lib.hid b2
          clear b1 b2 HNK HOK HPS hz0
          go_wp2_with fail
          go_quiet ((first | (go_at_call 52; with_reducible exact Calls.quiet_of_same (specIn_eq B1.out _)) | (go_at_call 52; with_reducible exact Calls.quiet_of_same (specIn_eq B2.out _))))
          go_wp2_with fail
          go_ret
          exact ⟨(congrArg (fun b => Ending.returned (Value.bool b)) HE.out).symm, below_drewN' hbw _⟩
        · by_cases hk1 : k = 0
          · have hgt2 : decide (0 < k) = false := decide_eq_false (by omega)
            have hgt' : decide ((0 : Int) < (k : Int)) = false := decide_eq_false (by omega)
            have HOKT : Hid (okI s k) := HOK.out.2 ⟨⟨by have := hz0 hk1; have := inB_iff.1 b1; omega, (inB_iff.1 b1).2⟩, inB_iff.1 b2⟩
            have B1 := Lib.hid b1
            have B2 := Lib.hid b2
            clear b1 b2 HNK HOK HPS hz0 hk1
            go_wp2_with fail
            go_quiet ((first | (go_at_call 52; with_reducible exact Calls.quiet_of_same (specIn_eq B1.out _)) | (go_at_call 52; with_reducible exact Calls.quiet_of_same (specIn_eq B2.out _))))
            go_wp2_with fail
            go_roundw
            case rel => exact ⟨k + 1, by omega, by congr 1, below_drewN' hbw _, fun i hi => by
              by_cases e : i = k
              · subst e; exact HOKT.out
              · exact HN.out i (by omega)⟩
            case measure => simp only [intOf]; omega
          · obtain ⟨i, rfl, rfl⟩ := HPS.out (by omega)
            obtain ⟨q0, -⟩ := HF.out.at2 hbw (Nat.le_refl _) i (by omega)
            obtain ⟨t0, ht0⟩ : ∃ y, y = s (i * 2) := ⟨_, rfl⟩
            rw [← ht0] at q0 HOK hp0
            have hk1 : IntKind.i64.wrap (((i + 1 : Nat) : Int) - 1) = (i : Int) := by rw [show ((i + 1 : Nat) : Int) - 1 = (i : Int) by omega]; exact IntWalk.i64_in _ (by omega)
            have hk2 : IntKind.i64.wrap ((i : Int)) = (i : Int) := IntWalk.i64_in _ (by omega)
            have hi0 : (0 : Int) ≤ (i : Int) := by omega
            have hin : (i : Int) < (n : Int) := by omega
            have hgt : (0 : Int) < ((i + 1 : Nat) : Int) := by omega
            have hgt' : decide ((0 : Int) < ((i + 1 : Nat) : Int)) = true := decide_eq_true hgt
            have hgt2 : decide ((0 : Int) < (i : Int) + 1) = true := decide_eq_true (by omega)
            have hgt3 : decide (0 < i + 1) = true := decide_eq_true (by omega)
            clear hz0 HPS ht0
            have hb12 := And.intro (inB_iff.1 b1) (inB_iff.1 b2)
            have B1 := Lib.hid b1
            have B2 := Lib.hid b2
            clear b1 b2
            by_cases b4 : x0 < t0
            · have b4d : decide (x0 < t0) = true := decide_eq_true b4
              have HE : Hid (imB n s = false) := HNK.out (fun h => by have hh := HOK.out.1 h; omega)
              clear HNK HOK HN
              go_wp2_with fail
              go_quiet ((first | (go_at_call 52; with_reducible exact Calls.quiet_of_same (specIn_eq B1.out _)) | (go_at_call 52; with_reducible exact Calls.quiet_of_same (specIn_eq B2.out _))))
              go_wp2_with fail
              go_ret
              exact ⟨(congrArg (fun b => Ending.returned (Value.bool b)) HE.out).symm, below_drewN' hbw _⟩
            · have b4d : decide (x0 < t0) = false := decide_eq_false b4
              have HOKT : Hid (okI s (i + 1)) := HOK.out.2 ⟨⟨by omega, hb12.1.2⟩, hb12.2⟩
              clear HNK HOK
              go_wp2_with fail
              go_quiet ((first | (go_at_call 52; with_reducible exact Calls.quiet_of_same (specIn_eq B1.out _)) | (go_at_call 52; with_reducible exact Calls.quiet_of_same (specIn_eq B2.out _))))
              go_wp2_with fail
              go_roundw
              case rel => exact ⟨i + 1 + 1, by omega, by congr 1, below_drewN' hbw _, fun j hj => by
                by_cases e : j = i + 1
                · subst e; exact HOKT.out
                · exact HN.out j (by omega)⟩
              case measure => simp only [intOf]; omega
      · obtain rfl : k = n := by omega
        have HE : Hid (imB k s = true) := imB_yes ⟨h3, HN.out⟩
        go_wp2_with fail
        go_ret
        exact ⟨(congrArg (fun b => Ending.returned (Value.bool b)) HE.out).symm, hbw⟩
  · have HE : Hid (imB n s = false) := imB_no (fun h => h3 h.1)
    go_enter Try.func31, Try.ntmps31
    go_wp2_with fail
    go_ret
    exact ⟨(congrArg (fun b => Ending.returned (Value.bool b)) HE.out).symm, Below.refl _ _⟩

theorem iImagesOk_v (n : Nat) (hn : n ≤ maxLen) (z : Nat → Int) (v : Value) (w : World) (h : Rd w v n (n * 2) z) :
    Calls Try.prog 33 #[v] w fun e w' => e = .returned (.bool (imB n z)) ∧ Below w.heap.size w w' := by
  obtain ⟨p, c, g, o, rfl, -, h⟩ := h
  exact iImagesOk_any n hn z p c g o w h
theorem sImagesOk_v (n : Nat) (hn : n ≤ maxLen) (z : Nat → Int) (v : Value) (w : World) (h : Rd w v n (n * 2) z) :
    Calls Try.prog 31 #[v] w fun e w' => e = .returned (.bool (imB n z)) ∧ Below w.heap.size w w' := by
  obtain ⟨p, c, g, o, rfl, -, h⟩ := h
  exact sImagesOk_any n hn z p c g o w h

end Go.Proofs.Ytkdlhapbbnggoaa
