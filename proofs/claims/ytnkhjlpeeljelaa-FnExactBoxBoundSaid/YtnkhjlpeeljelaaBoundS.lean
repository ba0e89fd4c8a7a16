/- What the model's BoxBound returns. -/
import Derived.Test.YtnkhjlpeeljelaaBoundI
import Derived.Test.YtnkhjlpeeljelaaPiecesOkS
namespace Go.Proofs.Ytnkhjlpeeljelaa
open Go.RowKit
set_option linter.unusedVariables false

set_option maxRecDepth 100000 in
set_option maxHeartbeats 8000000 in
theorem sBound_any (W C : Int) (n : Nat) (hn : n ≤ maxLen) (z : Nat → Int) (p : Option Addr) (c g o : Nat) (w : World) (h : FlatAt w 0 w.heap.size p g o (n * 3) (fun j => .int .i64 (z j))) :
    Calls Try.prog 36 #[.agg #[.int .i64 W, .int .i64 C], .slice p n c] w fun e w' => e = .returned (.int .i64 (bbI W C n z)) ∧ Below w.heap.size w w' := by
  have hp := Lib.hid (fun V (hV : Below w.heap.size w V) => sPiecesOk_any n hn z p c g o V ((h.below hV (Nat.le_refl _)).wide (Nat.le_refl _) hV.size))
  have hl := Lib.hid (fun V (hV : Below w.heap.size w V) => sLimitsOk_any W C V)
  have HF := Lib.hid h
  have ck := cellsPiece
  clear h
  by_cases h1 : liB W C = true
  rotate_left
  · have h1 : liB W C = false := by simpa using h1
    have HN := Lib.hid (bbI_no (W := W) (C := C) (n := n) (z := z) (by rw [h1]; rfl))
    rw [h1] at hl
    clear hp h1
    go_enter Try.func36, Try.ntmps36
    go_wp2_with (go_at_call 15; refine (hl.out _ ((Below.refl _ _).alloc (Nat.le_refl _) _)).mono ?_; rintro e w2 ⟨rfl, hb⟩)
    go_ret
    exact ⟨by rw [HN.out]; first | done | rfl, below_via hb ((Below.refl _ _).alloc (Nat.le_refl _) _) (by simp)⟩
  rw [h1] at hl
  by_cases h2 : pcsOk n z
  rotate_left
  · have HN := Lib.hid (bbI_no (W := W) (C := C) (n := n) (z := z) (by rw [decide_eq_false h2, Bool.and_false]))
    rw [decide_eq_false h2] at hp
    clear h1 h2
    go_enter Try.func36, Try.ntmps36
    go_wp2_with (first
      | (go_at_call 15; refine (hl.out _ ((Below.refl _ _).alloc (Nat.le_refl _) _)).mono ?_; rintro e w2 ⟨rfl, hb⟩; have hb2 : Below w.heap.size w w2 := below_via hb ((Below.refl _ _).alloc (Nat.le_refl _) _) (by simp))
      | (go_at_call 19; refine (hp.out _ (by first | exact hb2 | assumption)).mono ?_; rintro e w3 ⟨rfl, hb3⟩))
    go_ret
    exact ⟨by rw [HN.out]; first | done | rfl, hb2.trans (hb3.mono hb2.size)⟩
  rw [decide_eq_true h2] at hp
  have HE := Lib.hid (bbI_yes (W := W) (C := C) (n := n) (z := z) (by rw [h1, decide_eq_true h2]; rfl))
  have hn40 := h2.1
  have hWC := liB_range h1
  have HPC := Lib.hid (And.intro h1 h2)
  clear h1 h2
  go_enter Try.func36, Try.ntmps36
  obtain ⟨w1, hw1⟩ : ∃ x, x = w.alloc (.cells #[.int .i64 W, .int .i64 C] 25) := ⟨_, rfl⟩
  have X1 := Lib.hid (show w1.heap[w.heap.size]? = some (.cells #[.int .i64 W, .int .i64 C] 25 (0, 0)) from by rw [hw1]; exact heap_new _ _ _ rfl)
  have B1 := Lib.hid (show Below w.heap.size w w1 from by rw [hw1]; exact (Below.refl _ _).alloc (Nat.le_refl _) _)
  have S1 : w1.heap.size = w.heap.size + 1 := by rw [hw1]; simp
  have HW1 := Lib.hid hw1
  go_wp2_with (first
      | (go_at_call 15; rw [← hw1]; refine (hl.out _ B1.out).mono ?_; rintro e w2 ⟨rfl, hb2⟩)
      | (go_at_call 19; refine (hp.out _ (B1.out.trans (hb2.mono (by omega)))).mono ?_; rintro e w3 ⟨rfl, hb3⟩))
  have HB2 := Lib.hid (hb2.trans (hb3.mono hb2.size))
  clear hb2 hb3 HW1 hw1 hp hl
  go_loopw [5, 6] (fun sv iv wr => ∃ (k : Nat), k ≤ 6 ∧ iv = .int .i64 (k : Int) ∧ sv = .int .i64 (bbS W C n z k) ∧ Hid (Below w1.heap.size w1 wr)) (fun _ iv _ => 6 - (intOf iv).toNat)
  case atStart => exact ⟨0, by omega, rfl, rfl, HB2.out⟩
  case round =>
    obtain ⟨k, hk, rfl, rfl, HB⟩ := hrel
    obtain ⟨s, hs⟩ : ∃ s, s = bbS W C n z k := ⟨_, rfl⟩
    have hsr := bbS_in HPC.out.1 HPC.out.2 k
    rw [← hs] at hsr ⊢
    have HS := Lib.hid hs
    clear hs
    by_cases hk6 : k < 6
    · have hk0 : (0 : Int) ≤ (k : Int) := by omega
      have hkl : (k : Int) < 6 := by omega
      have hwk : IntKind.i64.wrap ((k : Int) + 1) = (k : Int) + 1 := IntWalk.i64_in _ (by omega)
      obtain ⟨wo, rfl⟩ : ∃ wo, wo = wr := ⟨_, rfl⟩
      go_wp2_with fail
      go_loopw [7, 8, 9] (fun av cv jv wr => ∃ (j : Nat), j ≤ n ∧ jv = .int .i64 (j : Int) ∧ av = .int .i64 (clW z (k : Int) j) ∧ cv = .int .i64 (clC z (k : Int) j) ∧ Hid (Below w1.heap.size w1 wr)) (fun _ _ jv _ => n - (intOf jv).toNat)
      case atStart => exact ⟨0, by omega, rfl, rfl, rfl, HB.out⟩
      case round =>
        obtain ⟨j, hj, rfl, rfl, rfl, HBJ⟩ := hrel
        have HBJ0 := Lib.hid (B1.out.trans (HBJ.out.mono (by omega)))
        by_cases hjn : j < n
        · obtain ⟨rfl, -, hg⟩ := HF.out.1 (by omega)
          obtain ⟨a0, a1, a2⟩ := HF.out.at3 HBJ0.out (Nat.le_refl _) j (by omega)
          have hj0 : (0 : Int) ≤ (j : Int) := by omega
          have hjl : (j : Int) < (n : Int) := by omega
          have hwj : IntKind.i64.wrap ((j : Int) + 1) = (j : Int) + 1 := IntWalk.i64_in _ (by omega)
          have hA := clW_in (n := j) (fun i hi => HPC.out.2.2.1 i (by omega)) (k : Int)
          have hC := clC_in z j (k : Int)
          have hone := HPC.out.2.2.1 j hjn
          have HAE := Lib.hid (show clW z (k : Int) (j + 1) = if z (j * 3 + 2) = (k : Int) then clW z (k : Int) j + z (j * 3 + 1) else clW z (k : Int) j from rfl)
          have HCE := Lib.hid (show clC z (k : Int) (j + 1) = if z (j * 3 + 2) = (k : Int) then clC z (k : Int) j + 1 else clC z (k : Int) j from rfl)
          obtain ⟨A, hAA⟩ : ∃ x, x = clW z (k : Int) j := ⟨_, rfl⟩
          obtain ⟨D, hDD⟩ : ∃ x, x = clC z (k : Int) j := ⟨_, rfl⟩
          have hw1 : 1 ≤ z (j * 3 + 1) ∧ z (j * 3 + 1) ≤ 60 := hone.1
          obtain ⟨x1, hx1⟩ : ∃ x, x = z (j * 3 + 1) := ⟨_, rfl⟩
          obtain ⟨x2, hx2⟩ : ∃ x, x = z (j * 3 + 2) := ⟨_, rfl⟩
          rw [← hAA] at hA HAE ⊢
          rw [← hDD] at hC HCE ⊢
          rw [← hx1] at a1 HAE hw1
          rw [← hx2] at a2 HAE HCE
          clear hAA hDD hx1 hx2 hone
          have hwA : IntKind.i64.wrap (A + x1) = A + x1 := IntWalk.i64_in _ (by omega)
          have hwD : IntKind.i64.wrap (D + 1) = D + 1 := IntWalk.i64_in _ (by omega)
          by_cases he : x2 = (k : Int)
          · have hb : (x2 == (k : Int)) = true := by simpa using he
            have HA2 := Lib.hid (HAE.out.trans (if_pos he))
            have HC2 := Lib.hid (HCE.out.trans (if_pos he))
            clear HAE HCE he hA hC hw1
            go_wp2_with fail
            go_roundw
            case rel => exact ⟨j + 1, by omega, by congr 1, by rw [HA2.out], by rw [HC2.out], HBJ.out⟩
            case measure => simp only [intOf]; omega
          · have hb : (x2 == (k : Int)) = false := by simpa using he
            have HA2 := Lib.hid (HAE.out.trans (if_neg he))
            have HC2 := Lib.hid (HCE.out.trans (if_neg he))
            clear HAE HCE he hA hC hw1
            go_wp2_with fail
            go_roundw
            case rel => exact ⟨j + 1, by omega, by congr 1, by rw [HA2.out], by rw [HC2.out], HBJ.out⟩
            case measure => simp only [intOf]; omega
        · obtain rfl : j = n := by omega
          have hcell := Lib.hid (fun K (hK : Below w1.heap.size w1 K) => cellsL2 ((hK.block w.heap.size (by omega)).trans X1.out))
          have hA := clW_in (n := j) (fun i hi => HPC.out.2.2.1 i (by omega)) (k : Int)
          have hC := clC_in z j (k : Int)
          have HSE := Lib.hid (show bbS W C j z (k + 1) = bbS W C j z k + clB W C j z (k : Int) from rfl)
          rw [← HS.out] at HSE
          unfold clB at HSE
          have h5 := prt_in hA.1 (show 1 ≤ W by omega)
          have h6 := prt_in hC.1 (show 1 ≤ C by omega)
          obtain ⟨A, hAA⟩ : ∃ x, x = clW z (k : Int) j := ⟨_, rfl⟩
          obtain ⟨D, hDD⟩ : ∃ x, x = clC z (k : Int) j := ⟨_, rfl⟩
          rw [← hAA] at hA HSE h5 ⊢
          rw [← hDD] at hC HSE h6 ⊢
          obtain ⟨P, hP⟩ : ∃ x, x = prt A W := ⟨_, rfl⟩
          obtain ⟨Q, hQ⟩ : ∃ x, x = prt D C := ⟨_, rfl⟩
          have hP' : (A + W - 1).tdiv W = P := hP.symm
          rw [← hP] at HSE h5
          have hQ' : (D + C - 1).tdiv C = Q := hQ.symm
          rw [← hQ] at HSE h6
          clear hAA hDD hP hQ
          obtain ⟨b0, b1⟩ := hcell.out _ HBJ.out
          have q1 : IntKind.i64.wrap (A + W) = A + W := IntWalk.i64_in _ (by omega)
          have q2 : IntKind.i64.wrap (A + W - 1) = A + W - 1 := IntWalk.i64_in _ (by omega)
          have q3 : IntKind.i64.wrap (D + C) = D + C := IntWalk.i64_in _ (by omega)
          have q4 : IntKind.i64.wrap (D + C - 1) = D + C - 1 := IntWalk.i64_in _ (by omega)
          have q5 : IntKind.i64.wrap P = P := IntWalk.i64_in _ (by omega)
          have q6 : IntKind.i64.wrap Q = Q := IntWalk.i64_in _ (by omega)
          have q7 : (W == 0) = false := by simp; omega
          have q8 : (C == 0) = false := by simp; omega
          have hwP : IntKind.i64.wrap (s + P) = s + P := IntWalk.i64_in _ (by omega)
          have hwQ : IntKind.i64.wrap (s + Q) = s + Q := IntWalk.i64_in _ (by omega)
          rcases Int.lt_trichotomy P Q with hPQ | hPQ | hPQ
          · have d1 : decide (P < Q) = true := decide_eq_true hPQ
            have d2 : decide (Q < P) = false := decide_eq_false (by omega)
            have d3 : (P == Q) = false := by simp; omega
            have HS2 := Lib.hid (HSE.out.trans (by rw [if_pos (by omega)]))
            clear HSE hA hC h5 h6
            go_wp2_with fail
            go_quiet (fail)
            go_wp2_with fail
            go_roundw
            case rel => exact ⟨k + 1, by omega, by congr 1, by rw [HS2.out], below_drewN' HBJ.out _⟩
            case measure => simp only [intOf]; omega
          · subst hPQ
            have d1 : decide (P < P) = false := decide_eq_false (by omega)
            have d3 : (P == P) = true := by simp
            have HS2 := Lib.hid (HSE.out.trans (by rw [if_pos (by omega)]))
            clear HSE hA hC h5 h6
            go_wp2_with fail
            go_quiet (fail)
            go_wp2_with fail
            go_roundw
            case rel => exact ⟨k + 1, by omega, by congr 1, by rw [HS2.out], below_drewN' HBJ.out _⟩
            case measure => simp only [intOf]; omega
          · have d1 : decide (P < Q) = false := decide_eq_false (by omega)
            have d2 : decide (Q < P) = true := decide_eq_true hPQ
            have d3 : (P == Q) = false := by simp; omega
            have HS2 := Lib.hid (HSE.out.trans (by rw [if_neg (by omega)]))
            clear HSE hA hC h5 h6
            go_wp2_with fail
            go_quiet (fail)
            go_wp2_with fail
            go_roundw
            case rel => exact ⟨k + 1, by omega, by congr 1, by rw [HS2.out], below_drewN' HBJ.out _⟩
            case measure => simp only [intOf]; omega
    · obtain rfl : k = 6 := by omega
      have HR := Lib.hid (HE.out.trans HS.out.symm)
      have HBR := Lib.hid (B1.out.trans (HB.out.mono (by omega)))
      go_wp2_with fail
      go_ret
      exact ⟨by rw [HR.out]; first | done | rfl, HBR.out⟩

theorem sBound_v (W C : Int) (n : Nat) (hn : n ≤ maxLen) (z : Nat → Int) (v : Value) (w : World) (h : Rd w v n (n * 3) z) :
    Calls Try.prog 36 #[.agg #[.int .i64 W, .int .i64 C], v] w fun e w' => e = .returned (.int .i64 (bbI W C n z)) ∧ Below w.heap.size w w' := by
  obtain ⟨p, c, g, o, rfl, -, h⟩ := h
  exact sBound_any W C n hn z p c g o w h

end Go.Proofs.Ytnkhjlpeeljelaa
