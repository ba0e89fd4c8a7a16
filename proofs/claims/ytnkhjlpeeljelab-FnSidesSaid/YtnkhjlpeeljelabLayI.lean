/- What the program's Lay returns. -/
import Derived.Test.YtnkhjlpeeljelabLeastDiffI
namespace Go.Proofs.Ytnkhjlpeeljelab
open Go.RowKit
set_option linter.unusedVariables false

/-- The number of sides that Lay tells. -/
def layN (n : Nat) (z : Nat → Int) : Nat := if wsOk 0 n z then n else 0
theorem OwnB.nil (w : World) (lo hi : Nat) (z : Nat → Bool) : OwnB w lo hi (.slice none 0 0) 0 z := ⟨none, 0, 0, 0, rfl, Nat.le_refl _, FlatAt.zero _ _ _ _ _ _ _, fun j hj => absurd hj (by omega)⟩

set_option maxRecDepth 100000 in
set_option maxHeartbeats 4000000 in
theorem iLay_v (n : Nat) (hn : n ≤ maxLen) (z : Nat → Int) (v : Value) (w : World) (h : Rd w v n n z) :
    Calls Try.prog 25 #[v] w fun e w' => ∃ u, e = .returned u ∧ OwnB w' w.heap.size w'.heap.size u (layN n z) (sdl n (layK n z)) ∧ Below w.heap.size w w' := by
  have hl := Lib.hid (iLeastDiff_v n hn z v w h)
  have HF := Lib.hid h
  obtain ⟨p, c, g, o, rfl, hc, h⟩ := h
  clear h
  by_cases hws : wsOk 0 n z
  rotate_left
  · have HN := Lib.hid (show layN n z = 0 from if_neg hws)
    rw [show ldI n z = -1 from if_neg hws] at hl
    clear hws
    go_enter Try.func25, Try.ntmps25
    go_wp2_with (go_at_call 24; refine hl.out.mono ?_; rintro e w2 ⟨rfl, hb⟩)
    go_ret
    exact ⟨_, rfl, by rw [HN.out]; exact OwnB.nil _ _ _ _, hb⟩
  have HE := Lib.hid (show layN n z = n from if_pos hws)
  rw [show ldI n z = ldV n z from if_pos hws] at hl
  have HWS := Lib.hid hws.low
  have hvn := ldV_in hws
  have HK := Lib.hid (layK_spec hws)
  have hn12 := hws.1
  have h2 := two_pow12 hn12
  clear hws
  obtain ⟨T, hT⟩ : ∃ T, T = 2 ^ n := ⟨_, rfl⟩
  rw [← hT] at h2 HK
  have hsh : IntKind.i64.wrap (1 * 2 ^ n) = (T : Int) := by
    rw [hT, Int.one_mul, show (2 : Int) ^ n = ((2 ^ n : Nat) : Int) from by rw [Int.natCast_pow]; rfl]
    exact IntWalk.i64_in _ (by have := two_pow12 hn12; omega)
  have hsh2 : IntKind.i64.wrap (2 ^ n) = (T : Int) := by rw [← hsh, Int.one_mul]
  clear hT
  obtain ⟨V, hV⟩ : ∃ V, V = ldV n z := ⟨_, rfl⟩
  rw [← hV] at hl hvn HK
  have HV := Lib.hid hV
  clear hV
  have hv1 : (V == -1) = false := by simp; omega
  go_enter Try.func25, Try.ntmps25
  go_wp2_with (go_at_call 24; refine hl.out.mono ?_; rintro e w2 ⟨rfl, hb⟩)
  have HB2 := Lib.hid hb
  clear hb hl
  go_loopw [13] (fun iv wr => ∃ (k : Nat), k ≤ layK n z ∧ iv = .int .i64 (k : Int) ∧ Hid (Below w.heap.size w wr)) (fun iv _ => T - (intOf iv).toNat)
  case atStart => exact ⟨0, Nat.zero_le _, rfl, HB2.out⟩
  case round =>
    obtain ⟨k, hk, rfl, HB⟩ := hrel
    have hkT : k < T := Nat.lt_of_le_of_lt hk HK.out.1
    have hk0 : (0 : Int) ≤ (k : Int) := by omega
    have hkl : (k : Int) < (T : Int) := by omega
    have hwk : IntKind.i64.wrap ((k : Int) + 1) = (k : Int) + 1 := IntWalk.i64_in _ (by omega)
    have hsd := Lib.hid (fun W (hW : Below w.heap.size w W) v (hv : RdB W v n (sdl n k)) => iSide_v n hn z (.slice p n c) n hn (sdl n k) v W (HF.out.later hW) hv)
    have hin := sdI_in HWS.out (sdl n k)
    have ham := amt_side HWS.out k
    obtain ⟨S, hS⟩ : ∃ S, S = sdI n z n (sdl n k) := ⟨_, rfl⟩
    obtain ⟨Y, hY⟩ : ∃ Y, Y = amt n z k := ⟨_, rfl⟩
    rw [← hS] at hsd hin ham
    rw [← hY] at ham
    have HY := Lib.hid hY
    have hamt := Lib.hid (fun W => iAmount_any S Y hin.1 hin.2 ham W)
    clear hS hY hin ham
    have hsides := Lib.hid (fun W => iSides_any n hn12 k (by omega) W)
    by_cases hYV : Y = V
    · have hkk : layK n z = k := by
        rcases Nat.lt_or_ge k (layK n z) with h | h
        · exact absurd (HY.out.symm.trans hYV) (HK.out.2.2 k h)
        · omega
      have HKK := Lib.hid hkk
      have hb : (Y == V) = true := by simpa using hYV
      clear hYV hkk
      go_wp2_with (first
          | (go_at_call 63; refine (hsides.out _).mono ?_; rintro e w4 ⟨v4, rfl, o4, hb4⟩; have b4 : Below w.heap.size w w4 := HB.out.trans (hb4.mono HB.out.size); have r4 := o4.rd (Nat.le_refl _))
          | (go_at_call 30; refine (hsd.out _ b4 v4 r4).mono ?_; rintro e w5 ⟨rfl, hb5⟩; have b5 : Below w.heap.size w w5 := b4.trans (hb5.mono b4.size))
          | (go_at_call 62; refine (hamt.out _).mono ?_; rintro e w6 ⟨rfl, rfl⟩))
      go_ret
      exact ⟨_, rfl, by rw [HE.out, HKK.out]; exact (o4.below hb5 (Nat.le_refl _)).wide HB.out.size hb5.size, b5⟩
    · have hb : (Y == V) = false := by simpa using hYV
      have hkk : k ≠ layK n z := fun e => hYV (by rw [HY.out, e]; exact HK.out.2.1)
      clear hYV
      go_wp2_with (first
          | (go_at_call 63; refine (hsides.out _).mono ?_; rintro e w4 ⟨v4, rfl, o4, hb4⟩; have b4 : Below w.heap.size w w4 := HB.out.trans (hb4.mono HB.out.size); have r4 := o4.rd (Nat.le_refl _))
          | (go_at_call 30; refine (hsd.out _ b4 v4 r4).mono ?_; rintro e w5 ⟨rfl, hb5⟩; have b5 : Below w.heap.size w w5 := b4.trans (hb5.mono b4.size))
          | (go_at_call 62; refine (hamt.out _).mono ?_; rintro e w6 ⟨rfl, rfl⟩))
      go_roundw
      case rel => exact ⟨k + 1, by omega, by congr 1, b5⟩
      case measure => simp only [intOf]; omega

end Go.Proofs.Ytnkhjlpeeljelab
