/- What the program's SideDifference returns. -/
import Derived.Test.YtnkhjlpeeljelabWeights
import Derived.Test.YtnkhjlpeeljelabBools0
namespace Go.Proofs.Ytnkhjlpeeljelab
open Go.RowKit
set_option linter.unusedVariables false

set_option maxRecDepth 100000 in
set_option maxHeartbeats 4000000 in
theorem iSide_any (n : Nat) (hn : n ≤ maxLen) (z : Nat → Int) (p : Option Addr) (c g o : Nat) (m : Nat) (hm : m ≤ maxLen) (b : Nat → Bool) (pb : Option Addr) (cb gb ob : Nat) (w : World) (h : FlatAt w 0 w.heap.size p g o n (fun j => .int .i64 (z j))) (hbb : FlatAt w 0 w.heap.size pb gb ob m (fun j => .bool (b j))) :
    Calls Try.prog 30 #[.slice p n c, .slice pb m cb] w fun e w' => e = .returned (.int .i64 (sdI n z m b)) ∧ Below w.heap.size w w' := by
  have hw := Lib.hid (iWeights_any (-2000) n hn z p c g o w h)
  unfold maxLen at hn hm
  have HF := Lib.hid h
  have HG := Lib.hid hbb
  clear h hbb
  by_cases hnm : n = m
  rotate_left
  · have HN := Lib.hid (show sdI n z m b = 0 from if_neg (fun h => hnm h.1))
    have hd : ((n : Int) == (m : Int)) = false := by simp; omega
    have hd2 : ((n : Int) != (m : Int)) = true := by simp; omega
    clear hnm
    go_enter Try.func30, Try.ntmps30
    go_wp2_with fail
    go_ret
    exact ⟨by rw [HN.out]; first | done | rfl, Below.refl _ _⟩
  subst hnm
  by_cases hws : wsOk (-2000) n z
  rotate_left
  · have HN := Lib.hid (show sdI n z n b = 0 from if_neg (fun h => hws h.2))
    rw [decide_eq_false hws] at hw
    clear hws
    go_enter Try.func30, Try.ntmps30
    go_wp2_with (go_at_call 61; refine hw.out.mono ?_; rintro e w2 ⟨rfl, hb⟩)
    go_ret
    exact ⟨by rw [HN.out]; first | done | rfl, hb⟩
  have HE := Lib.hid (show sdI n z n b = sgn z b n from if_pos ⟨rfl, hws⟩)
  rw [decide_eq_true hws] at hw
  have HWS := Lib.hid hws
  have hn12 := hws.1
  clear hws
  go_enter Try.func30, Try.ntmps30
  go_wp2_with (go_at_call 61; refine hw.out.mono ?_; rintro e w2 ⟨rfl, hb⟩)
  have HB2 := Lib.hid hb
  clear hb hw
  go_loopw [5, 20] (fun sv iv wr => ∃ (k : Nat), k ≤ n ∧ iv = .int .i64 (k : Int) ∧ sv = .int .i64 (sgn z b k) ∧ Hid (Below w.heap.size w wr)) (fun _ iv _ => n - (intOf iv).toNat)
  case atStart => exact ⟨0, by omega, rfl, rfl, HB2.out⟩
  case round =>
    obtain ⟨k, hk, rfl, rfl, HB⟩ := hrel
    have hsr := sgn_in (n := k) b (fun i hi => HWS.out.2 i (by omega))
    by_cases hkn : k < n
    · obtain ⟨rfl, -, hg⟩ := HF.out.1 (by omega)
      obtain ⟨rfl, -, hgb⟩ := HG.out.1 (by omega)
      have a0 := (HB.out.cell (p := ⟨g, o + k, none⟩) hg).trans (HF.out.int k hkn)
      have b0 := (HB.out.cell (p := ⟨gb, ob + k, none⟩) hgb).trans (HG.out.bool k hkn)
      have hk0 : (0 : Int) ≤ (k : Int) := by omega
      have hkl : (k : Int) < (n : Int) := by omega
      have hwk : IntKind.i64.wrap ((k : Int) + 1) = (k : Int) + 1 := IntWalk.i64_in _ (by omega)
      have hzk := HWS.out.2 k hkn
      have HSE := Lib.hid (show sgn z b (k + 1) = if b k = true then sgn z b k + z k else sgn z b k - z k from rfl)
      obtain ⟨s, hs⟩ : ∃ s, s = sgn z b k := ⟨_, rfl⟩
      obtain ⟨x, hx⟩ : ∃ x, x = z k := ⟨_, rfl⟩
      obtain ⟨t, ht⟩ : ∃ t, t = b k := ⟨_, rfl⟩
      rw [← hs] at hsr HSE ⊢
      rw [← hx] at a0 hzk HSE
      rw [← ht] at b0 HSE
      clear hs hx ht
      have hw1 : IntKind.i64.wrap (s + x) = s + x := IntWalk.i64_in _ (by omega)
      have hw2 : IntKind.i64.wrap (s - x) = s - x := IntWalk.i64_in _ (by omega)
      cases t
      · have HS2 := Lib.hid (HSE.out.trans (if_neg (by decide)))
        clear HSE hsr hzk
        go_wp2_with fail
        go_roundw
        case rel => exact ⟨k + 1, by omega, by congr 1, by rw [HS2.out], HB.out⟩
        case measure => simp only [intOf]; omega
      · have HS2 := Lib.hid (HSE.out.trans (if_pos rfl))
        clear HSE hsr hzk
        go_wp2_with fail
        go_roundw
        case rel => exact ⟨k + 1, by omega, by congr 1, by rw [HS2.out], HB.out⟩
        case measure => simp only [intOf]; omega
    · obtain rfl : k = n := by omega
      obtain ⟨s, hs⟩ : ∃ s, s = sgn z b k := ⟨_, rfl⟩
      rw [← hs] at hsr ⊢
      have HR := Lib.hid (HE.out.trans hs.symm)
      clear hs hsr
      go_wp2_with fail
      go_ret
      exact ⟨by rw [HR.out]; first | done | rfl, HB.out⟩

theorem iSide_v (n : Nat) (hn : n ≤ maxLen) (z : Nat → Int) (v : Value) (m : Nat) (hm : m ≤ maxLen) (b : Nat → Bool) (u : Value) (w : World) (h : Rd w v n n z) (hb : RdB w u m b) :
    Calls Try.prog 30 #[v, u] w fun e w' => e = .returned (.int .i64 (sdI n z m b)) ∧ Below w.heap.size w w' := by
  obtain ⟨p, c, g, o, rfl, -, h⟩ := h
  obtain ⟨pb, cb, gb, ob, rfl, -, hb⟩ := hb
  exact iSide_any n hn z p c g o m hm b pb cb gb ob w h hb

end Go.Proofs.Ytnkhjlpeeljelab
