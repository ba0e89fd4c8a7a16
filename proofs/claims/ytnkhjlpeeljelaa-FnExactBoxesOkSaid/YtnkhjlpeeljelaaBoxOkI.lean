/- What the program's boxOk returns, where the pieces are valid. -/
import Derived.Test.YtnkhjlpeeljelaaBoxesPlain
import Derived.Test.YtnkhjlpeeljelaaIn
import Derived.Test.YtnkhjlpeeljelaaCanPack
namespace Go.Proofs.Ytnkhjlpeeljelaa
open Go.RowKit
set_option linter.unusedVariables false

set_option maxRecDepth 100000 in
set_option maxHeartbeats 8000000 in
theorem iBoxOk_any (W C : Int) (hW : 60 ≤ W ∧ W ≤ 2000) (hC : 1 ≤ C ∧ C ≤ 40) (n : Nat) (z : Nat → Int) (hz : pcsOk n z) (p : Option Addr) (c g o : Nat) (cls wt : Int) (m : Nat) (hm : m ≤ 1048576) (x : Nat → Int) (pb : Option Addr) (cb : Nat) (w : World) (h : FlatAt w 0 w.heap.size p g o (n * 3) (fun j => .int .i64 (z j))) (hb : Rd w (.slice pb m cb) m m x) :
    Calls Try.prog 68 #[.agg #[.int .i64 W, .int .i64 C], .slice p n c, .agg #[.int .i64 cls, .int .i64 wt, .slice pb m cb]] w fun e w' => e = .returned (.bool (decide (bxOk W C n z cls wt m x))) ∧ Below w.heap.size w w' := by
  have c3 := cellsPiece
  have hn40 := hz.1
  have HF := Lib.hid h
  have HZ := Lib.hid hz
  obtain ⟨pb', cb', gb, ob, e1, hcb, hfb⟩ := hb
  injection e1 with e1 e2 e3
  subst e1 e3
  have HG := Lib.hid hfb
  clear h hz hfb e2
  obtain ⟨w1, hw1⟩ : ∃ x, x = w.alloc (.cells #[.int .i64 W, .int .i64 C] 25) := ⟨_, rfl⟩
  have S1 : w1.heap.size = w.heap.size + 1 := by rw [hw1]; simp
  obtain ⟨w2, hw2⟩ : ∃ x, x = w1.alloc (.cells #[.int .i64 cls, .int .i64 wt, .slice pb m cb] 74) := ⟨_, rfl⟩
  have S2 : w2.heap.size = w.heap.size + 2 := by rw [hw2]; simp [S1]
  have B1 : Below w.heap.size w w1 := by rw [hw1]; exact (Below.refl _ _).alloc (Nat.le_refl _) _
  have B2 := Lib.hid (show Below w.heap.size w w2 from by rw [hw2]; exact B1.alloc B1.size _)
  have X1 := Lib.hid (show w2.heap[w.heap.size]? = some (.cells #[.int .i64 W, .int .i64 C] 25 (0, 0)) from by rw [hw2]; exact (heap_old _ _ _ (by omega)).trans (by rw [hw1]; exact heap_new _ _ _ rfl))
  have X2 := Lib.hid (show w2.heap[w.heap.size + 1]? = some (.cells #[.int .i64 cls, .int .i64 wt, .slice pb m cb] 74 (0, 0)) from by rw [hw2]; exact heap_new _ _ _ S1.symm)
  have HW1 := Lib.hid hw1
  have HW2 := Lib.hid hw2
  clear hw1 hw2 B1
  have hcells := Lib.hid (fun K (hK : Below w2.heap.size w2 K) => And.intro (cellsL2 ((hK.block w.heap.size (by omega)).trans X1.out)) (cells3P ((hK.block (w.heap.size + 1) (by omega)).trans X2.out)))
  have hmI : decide ((0 : Int) ≤ (m : Int)) = true := decide_eq_true (by omega)
  rcases Bool.eq_false_or_eq_true (inB 1 C (m : Int)) with b1 | b1
  rotate_left
  · have HN := Lib.hid (decide_eq_false (p := bxOk W C n z cls wt m x) (fun h => inB_no.1 b1 h.1))
    have HB1 := Lib.hid b1
    clear b1
    go_enter Try.func68, Try.ntmps68
    go_wp2_with (go_at_call 53; with_reducible refine (within_at HB1.out _).mono ?_; rintro e w4 ⟨rfl, rfl⟩)
    go_ret
    exact ⟨by rw [HN.out]; first | done | rfl, ((Below.refl _ _).alloc (Nat.le_refl _) _).alloc (by simp) _⟩
  have hmC := inB_iff.1 b1
  have HB1 := Lib.hid b1
  clear b1
  go_enter Try.func68, Try.ntmps68
  go_wp2_with (go_at_call 53; with_reducible refine (within_at HB1.out _).mono ?_; rintro e w4 ⟨rfl, rfl⟩)
  go_loopw [7, 22] (fun sv iv wr => ∃ (j : Nat) (s : Int), j ≤ m ∧ iv = .int .i64 (j : Int) ∧ sv = .int .i64 s ∧ Hid (bxW n z cls x j = some s) ∧ Hid (Below w2.heap.size w2 wr)) (fun _ iv _ => m - (intOf iv).toNat)
  case atStart => exact ⟨0, 0, by omega, rfl, rfl, rfl, by rw [← HW1.out, ← HW2.out]; exact Below.refl _ _⟩
  case round =>
    obtain ⟨j, s, hj, rfl, rfl, HS, HB⟩ := hrel
    have HBW := Lib.hid (B2.out.trans (HB.out.mono B2.out.size))
    have hsr := bxW_in HZ.out j HS.out
    have hszr := HB.out.size
    obtain ⟨⟨b0, b1⟩, d0, d1, d2, -, -, -⟩ := hcells.out _ HB.out
    by_cases hjm : j < m
    · obtain ⟨rfl, -, hgb⟩ := HG.out.1 (by omega)
      have a0 := (HBW.out.cell (p := ⟨gb, ob + j, none⟩) hgb).trans (HG.out.int j hjm)
      have hj0 : (0 : Int) ≤ (j : Int) := by omega
      have hjl : (j : Int) < (m : Int) := by omega
      have hwj : IntKind.i64.wrap ((j : Int) + 1) = (j : Int) + 1 := IntWalk.i64_in _ (by omega)
      have HST := Lib.hid (fun (hh : bxW n z cls x (j + 1) = none) => decide_eq_false (p := bxOk W C n z cls wt m x) (fun h => by
        have := bxW_stop hh (show j + 1 ≤ m by omega)
        have h2 := h.2.1
        rw [this] at h2
        cases h2))
      have HNX := Lib.hid (show bxW n z cls x (j + 1) = (match pcF z (x j) n with | none => none | some k => if z (k * 3 + 2) = cls then some (s + z (k * 3 + 1)) else none) from by
        show (match bxW n z cls x j with | none => none | some s => _) = _
        rw [HS.out]
        rfl)
      have hpc := pcF_iff z (x j) n
      rcases hpF : pcF z (x j) n with _ | k
      · have HN := Lib.hid (HST.out (HNX.out.trans (by rw [hpF])))
        have hcall := Lib.hid (iPieceOf_no n (by unfold maxLen; omega) z p c g o (x j) (hpc.2 hpF) wr ((HF.out.below HBW.out (Nat.le_refl _)).wide (Nat.le_refl _) HBW.out.size))
        clear HST HNX hpc hpF
        go_wp2_with (go_at_call 85; refine hcall.out.mono ?_; rintro e w4 ⟨rfl, hb4⟩)
        go_ret
        exact ⟨by rw [HN.out]; first | done | rfl, (HBW.out.trans (hb4.mono HBW.out.size)).alloc (by have := HBW.out.size; have := hb4.size; omega) _⟩
      have hPA := hpc.1 k hpF
      have hk60 := HZ.out.2.1 k hPA.1
      have HNX2 := Lib.hid (show bxW n z cls x (j + 1) = if z (k * 3 + 2) = cls then some (s + z (k * 3 + 1)) else none from HNX.out.trans (by rw [hpF]))
      have hcall := Lib.hid (iPieceOf_yes n (by unfold maxLen; omega) z p c g o (x j) k hPA wr ((HF.out.below HBW.out (Nat.le_refl _)).wide (Nat.le_refl _) HBW.out.size))
      clear hpc hpF HNX hPA
      have hw60 : 1 ≤ z (k * 3 + 1) ∧ z (k * 3 + 1) ≤ 60 := hk60.1
      clear hk60
      obtain ⟨y1, hy1⟩ : ∃ y, y = z (k * 3 + 1) := ⟨_, rfl⟩
      obtain ⟨y2, hy2⟩ : ∃ y, y = z (k * 3 + 2) := ⟨_, rfl⟩
      obtain ⟨y0, hy0⟩ : ∃ y, y = x j := ⟨_, rfl⟩
      rw [← hy0] at a0 hcall
      rw [← hy1] at hcall HNX2 hw60
      rw [← hy2] at hcall HNX2
      clear hy0 hy1 hy2
      by_cases he : y2 = cls
      · have hbq : (y2 != cls) = false := by simpa using he
        have HS2 := Lib.hid (HNX2.out.trans (if_pos he))
        have hws : IntKind.i64.wrap (s + y1) = s + y1 := IntWalk.i64_in _ (by omega)
        clear HNX2 HST he
        go_wp2_with (go_at_call 85; refine hcall.out.mono ?_; rintro e w4 ⟨rfl, hb4⟩; have b4 : Below w2.heap.size w2 w4 := HB.out.trans (hb4.mono HB.out.size); have s4 := b4.size; have hne1 : w4.heap.size ≠ w.heap.size + 1 := (by omega); have hne2 : w.heap.size + 1 ≠ w4.heap.size := (by omega); obtain ⟨⟨q0, q1⟩, e0, e1, e2, -, -, -⟩ := hcells.out _ (b4.alloc b4.size (.cells #[.int .i64 y0, .int .i64 y1, .int .i64 y2] 62)))
        go_roundw
        case rel => exact ⟨j + 1, s + y1, by omega, by congr 1, rfl, HS2.out, b4.alloc b4.size _⟩
        case measure => simp only [intOf]; omega
      · have hbq : (y2 != cls) = true := by simpa using he
        have HN := Lib.hid (HST.out (HNX2.out.trans (if_neg he)))
        clear HNX2 HST he
        go_wp2_with (go_at_call 85; refine hcall.out.mono ?_; rintro e w4 ⟨rfl, hb4⟩; have b4 : Below w2.heap.size w2 w4 := HB.out.trans (hb4.mono HB.out.size); have s4 := b4.size; have hne1 : w4.heap.size ≠ w.heap.size + 1 := (by omega); have hne2 : w.heap.size + 1 ≠ w4.heap.size := (by omega); obtain ⟨⟨q0, q1⟩, e0, e1, e2, -, -, -⟩ := hcells.out _ (b4.alloc b4.size (.cells #[.int .i64 y0, .int .i64 y1, .int .i64 y2] 62)))
        go_ret
        exact ⟨by rw [HN.out]; first | done | rfl, B2.out.trans ((b4.mono B2.out.size).alloc (by have := b4.size; omega) _)⟩
    · obtain rfl : j = m := by omega
      have HE := Lib.hid (show bxOk W C n z cls wt j x ↔ s = wt ∧ wt ≤ W from by
        unfold bxOk
        rw [HS.out]
        exact ⟨fun h => ⟨by have := h.2.1; injection this, h.2.2⟩, fun h => ⟨hmC, by rw [h.1], h.2⟩⟩)
      by_cases e1 : s = wt
      · subst e1
        by_cases e2 : s ≤ W
        · have hd : decide (s ≤ W) = true := decide_eq_true e2
          have HN := Lib.hid (decide_eq_true (HE.out.2 ⟨rfl, e2⟩))
          clear HE e2
          go_wp2_with fail
          go_ret
          exact ⟨by rw [HN.out]; first | done | rfl, HBW.out⟩
        · have hd : decide (s ≤ W) = false := decide_eq_false e2
          have HN := Lib.hid (decide_eq_false (fun h => e2 (HE.out.1 h).2))
          clear HE e2
          go_wp2_with fail
          go_ret
          exact ⟨by rw [HN.out]; first | done | rfl, HBW.out⟩
      · have hbq : (s == wt) = false := by simpa using e1
        have HN := Lib.hid (decide_eq_false (fun h => e1 (HE.out.1 h).1))
        clear HE e1
        go_wp2_with fail
        go_ret
        exact ⟨by rw [HN.out]; first | done | rfl, HBW.out⟩

end Go.Proofs.Ytnkhjlpeeljelaa
