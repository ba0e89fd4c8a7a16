/- The laws' own functions over rows of Box: size, copy, comparison of equal ones. -/
import Derived.Test.YtnkhjlpeeljelaaNest
import Derived.Test.YtnkhjlpeeljelaaIntsS
import Derived.Test.YtnkhjlpeeljelaaIntEq
import Derived.Test.YtnkhjlpeeljelaaSmall
import Derived.Test.YtnkhjlpeeljelaaChecked
import Derived.Deep.LoopGhost
import Derived.BigQuiet
import Derived.Deep.QuietTactic
import Derived.Deep.RegionWith
import Derived.OwnWalk
import Derived.Laws.MakeOwn
import Derived.IntWalk
namespace Go.Proofs.Ytnkhjlpeeljelaa
open Go.RowKit
set_option linter.unusedVariables false

theorem cellsBox : Try.prog.cellsOf 74 = 3 := by kernel_rfl
theorem cellsLBox : Try.prog.cellsOf 73 = 3 := by kernel_rfl
theorem infoBox : (Try.prog.info? 74).map (fun i => (i.zero, i.size, i.bytes)) = some (some (.agg #[.int .i64 0, .int .i64 0, .slice none 0 0]), 3, 40) := by kernel_rfl

theorem szBox_one (x0 x1 : Int) (m : Nat) (p : Option Addr) (c : Nat) (l : Nat) (hl : l ≤ 1099511627776) (hm : m ≤ maxLen) (z : Nat → Int) (w : World) (h : Rd w (.slice p m c) m m z) :
    Calls Try.prog 64 #[.agg #[.int .i64 x0, .int .i64 x1, .slice p m c], .int .i64 (l : Int)] w fun e w' => e = .returned (.int .i64 (if m ≤ l then ((l - m : Nat) : Int) else -1)) ∧ Below w.heap.size w w' := by
  have hc := Lib.hid (fun W (hW : Below w.heap.size w W) => szIntS_s m (.slice p m c) l hl hm m z W (h.later hW))
  clear h
  by_cases h : m ≤ l
  · simp only [if_pos h] at hc
    rw [if_pos h]
    have h2 : ¬ (((l - m : Nat) : Int) < 0) := by omega
    go_enter Try.func64, Try.ntmps64
    go_wp2_with (go_at_call 84; refine (hc.out _ (by repeat (first | exact Below.refl _ _ | refine Below.alloc ?_ (by simp <;> omega) _ | refine Below.setCell ?_ (by simp <;> omega) _ | refine Below.drew ?_))).mono ?_; rintro e w2 ⟨rfl, rfl⟩)
    go_ret
    refine ⟨rfl, ?_⟩
    repeat (first | exact Below.refl _ _ | refine Below.alloc ?_ (by simp <;> omega) _ | refine Below.setCell ?_ (by simp <;> omega) _ | refine Below.drew ?_)
  · simp only [if_neg h] at hc
    rw [if_neg h]
    go_enter Try.func64, Try.ntmps64
    go_wp2_with (go_at_call 84; refine (hc.out _ (by repeat (first | exact Below.refl _ _ | refine Below.alloc ?_ (by simp <;> omega) _ | refine Below.setCell ?_ (by simp <;> omega) _ | refine Below.drew ?_))).mono ?_; rintro e w2 ⟨rfl, rfl⟩)
    go_ret
    refine ⟨rfl, ?_⟩
    repeat (first | exact Below.refl _ _ | refine Below.alloc ?_ (by simp <;> omega) _ | refine Below.setCell ?_ (by simp <;> omega) _ | refine Below.drew ?_)

/-- The cells of struct k. -/
theorem atBox {w : World} {lo hi : Nat} {p : Option Addr} {g o n : Nat} {a : Nat → Int} {s : Nat → Value} (hf : FlatAt w lo hi p g o (n * 3) (ncell 2 a s)) {k : Nat} (hk : k < n) {B : Nat} {W : World} (hW : Below B w W) (hB : hi ≤ B) :
    W.cell? ⟨g, o + k * 3, none⟩ = some (.int .i64 (a (k * 3))) ∧ W.cell? ⟨g, o + k * 3 + 1, none⟩ = some (.int .i64 (a (k * 3 + 1))) ∧ W.cell? ⟨g, o + k * 3 + 2, none⟩ = some (s k) := by
      have hg : g < B := by have := (hf.1 (by omega)).2.2; omega
      have a0 : W.cell? ⟨g, o + k * 3, none⟩ = some (.int .i64 (a (k * 3))) := by
        have := (hW.cell (p := ⟨g, o + (k * 3 + 0), none⟩) hg).trans (hf.2 (k * 3 + 0) (by have : (k + 1) * 3 ≤ n * 3 := Nat.mul_le_mul_right _ hk; omega))
        rw [show ncell 2 a s (k * 3 + 0) = .int .i64 (a (k * 3 + 0)) from if_neg (by omega)] at this
        simpa only [Nat.add_zero, ← Nat.add_assoc] using this
      have a1 : W.cell? ⟨g, o + k * 3 + 1, none⟩ = some (.int .i64 (a (k * 3 + 1))) := by
        have := (hW.cell (p := ⟨g, o + (k * 3 + 1), none⟩) hg).trans (hf.2 (k * 3 + 1) (by have : (k + 1) * 3 ≤ n * 3 := Nat.mul_le_mul_right _ hk; omega))
        rw [show ncell 2 a s (k * 3 + 1) = .int .i64 (a (k * 3 + 1)) from if_neg (by omega)] at this
        simpa only [Nat.add_zero, ← Nat.add_assoc] using this
      have a2 : W.cell? ⟨g, o + k * 3 + 2, none⟩ = some (s k) := by
        have := (hW.cell (p := ⟨g, o + (k * 3 + 2), none⟩) hg).trans (hf.2 (k * 3 + 2) (by have : (k + 1) * 3 ≤ n * 3 := Nat.mul_le_mul_right _ hk; omega))
        rw [show ncell 2 a s (k * 3 + 2) = s k from (if_pos (by omega)).trans (by congr 1; omega)] at this
        simpa only [Nat.add_zero, ← Nat.add_assoc] using this
      exact ⟨a0, a1, a2⟩

set_option maxRecDepth 100000 in
set_option maxHeartbeats 1000000 in
theorem szBoxS_v (n : Nat) (p : Option Addr) (c : Nat) (l : Nat) (hl : l ≤ 1099511627776) (hn : n ≤ maxLen) (a : Nat → Int) (nn : Nat → Nat) (hm : ∀ i, i < n → nn i ≤ maxLen) (xx : Nat → Nat → Int) (w : World) (h : NRd w (.slice p n c) n 2 a nn xx) :
    Calls Try.prog 38 #[.slice p n c, .int .i64 (l : Int)] w fun e w' => e = .returned (.int .i64 (if n + totN nn n ≤ l then ((l - (n + totN nn n) : Nat) : Int) else -1)) ∧ Below w.heap.size w w' := by
  obtain ⟨p0, c0, g, o, s, he, hc, hf, hr⟩ := h
  injection he with e1 e2 e3
  subst e1 e3
  clear e2
  have hf : FlatAt w 0 w.heap.size p g o (n * 3) (ncell 2 a s) := hf
  have ck := cellsLBox
  have H := Lib.hid hf
  have HR := Lib.hid hr
  have HM := Lib.hid hm
  clear hf hr hm
  have hn' : n ≤ maxLen := hn
  unfold maxLen at hn'
  obtain ⟨R, hR⟩ : ∃ R : Int, R = if n + totN nn n ≤ l then ((l - (n + totN nn n) : Nat) : Int) else -1 := ⟨_, rfl⟩
  rw [← hR]
  have HRR := Lib.hid hR
  clear hR
  by_cases h0 : n ≤ l
  rotate_left
  · have h2 : (l : Int) - (n : Int) < 0 := by omega
    obtain rfl : R = -1 := by rw [HRR.out, if_neg (by omega)]
    go_enter Try.func38, Try.ntmps38
    go_wp2
    go_ret
    exact ⟨rfl, Below.refl _ _⟩
  have h1 : (l : Int) - (n : Int) = ((l - n : Nat) : Int) := by omega
  have h2 : decide ((l : Int) - (n : Int) < 0) = false := decide_eq_false (by omega)
  have H1 := Lib.hid h1
  clear h1
  go_enter Try.func38, Try.ntmps38
  go_wp2_with fail
  go_loopw [1, 5] (fun lv iv wr => ∃ k : Nat, k ≤ n ∧ iv = .int .i64 (k : Int) ∧ Hid (n + totN nn k ≤ l) ∧ lv = .int .i64 ((l - (n + totN nn k) : Nat) : Int) ∧ Hid (Below w.heap.size w wr)) (fun _ iv _ => n - (intOf iv).toNat)
  case atStart => exact ⟨0, by omega, rfl, by show n + 0 ≤ l; omega, by rw [H1.out]; rfl, Below.refl _ _⟩
  case round =>
    obtain ⟨k, hk, rfl, HT, rfl, HB⟩ := hrel
    obtain ⟨q, hq⟩ : ∃ q, q = l - (n + totN nn k) := ⟨_, rfl⟩
    have HQ := Lib.hid hq
    rw [← hq]
    have hq9 : q ≤ 1099511627776 := by omega
    clear hq
    by_cases hkn : k < n
    · obtain ⟨rfl, -, hg⟩ := H.out.1 (by omega)
      obtain ⟨p1, c1, g1, o1, e1, hc1, hf1⟩ := HR.out k hkn
      obtain ⟨a0, a1, a2⟩ := atBox H.out hkn HB.out (Nat.le_refl _)
      rw [e1] at a2
      have hz := Lib.hid (fun W (hW : Below w.heap.size w W) => szBox_one (a (k * 3)) (a (k * 3 + 1)) (nn k) p1 c1 q hq9 (HM.out k hkn) (xx k) W ((show Rd w (.slice p1 (nn k) c1) (nn k) (nn k) (xx k) from ⟨p1, c1, g1, o1, rfl, hc1, hf1⟩).later hW))
      have hk0 : (0 : Int) ≤ (k : Int) := by omega
      have hkl : (k : Int) < (n : Int) := by omega
      have hwk : IntKind.i64.wrap ((k : Int) + 1) = (k : Int) + 1 := IntWalk.i64_in _ (by omega)
      have HK := Lib.hid hkn
      clear hf1 e1
      by_cases hx : nn k ≤ q
      · simp only [if_pos hx] at hz
        have hd : decide (((q - nn k : Nat) : Int) < 0) = false := decide_eq_false (by omega)
        have HX := Lib.hid hx
        clear hx
        go_wp2_with (go_at_call 64; refine (hz.out _ HB.out).mono ?_; rintro e w2 ⟨rfl, hb2⟩)
        go_roundw
        case rel => exact ⟨k + 1, by omega, by congr 1, by have := HX.out; have := HQ.out; have := HT.out; show n + (totN nn k + nn k) ≤ l; omega, by congr 1; have := HX.out; have := HQ.out; have := HT.out; show _ = ((l - (n + (totN nn k + nn k)) : Nat) : Int); omega, HB.out.trans (hb2.mono HB.out.size)⟩
        case measure => simp only [intOf]; omega
      · simp only [if_neg hx] at hz
        have hN : ¬ (n + totN nn n ≤ l) := by
          have h5 := totN_le (nn := nn) (show k + 1 ≤ n from hkn)
          have e : totN nn (k + 1) = totN nn k + nn k := rfl
          have := HQ.out
          have := HT.out
          omega
        obtain rfl : R = -1 := by rw [HRR.out, if_neg hN]
        clear hx hN
        go_wp2_with (go_at_call 64; refine (hz.out _ HB.out).mono ?_; rintro e w2 ⟨rfl, hb2⟩)
        go_ret
        exact ⟨rfl, HB.out.trans (hb2.mono HB.out.size)⟩
    · obtain rfl : k = n := by omega
      obtain rfl : R = (q : Int) := by rw [HRR.out, if_pos HT.out, HQ.out]
      go_wp2_with fail
      go_ret
      exact ⟨rfl, HB.out⟩

set_option maxRecDepth 100000 in
set_option maxHeartbeats 1000000 in
theorem toBox_one (x0 x1 : Int) (m : Nat) (hm : m ≤ 1048576) (p : Option Addr) (c : Nat) (z : Nat → Int) (w : World) (h : Rd w (.slice p m c) m m z) :
    Calls Try.prog 67 #[.agg #[.int .i64 x0, .int .i64 x1, .slice p m c]] w fun e w' => ∃ a' c', e = .returned (.agg #[.int .i64 x0, .int .i64 x1, .slice (some a') m c']) ∧ Own w' w.heap.size w'.heap.size (.slice (some a') m c') m m z ∧ Below w.heap.size w w' := by
  have H0 := Lib.hid h
  clear h
  go_enter Try.func67, Try.ntmps67
  have hT := Lib.hid (fun W (hb : Below w.heap.size w W) => toIntS_s m hm z (.slice p m c) W (H0.out.later hb))
  go_wp2_with fail
  refine (hT.out _ (by repeat (first | exact Below.refl _ _ | refine Below.alloc ?_ (by simp <;> omega) _ | refine Below.setCell ?_ (by simp <;> omega) _ | refine Below.drew ?_))).mono ?_
  rintro e w2 ⟨a', c', rfl, how, hb2⟩
  obtain ⟨hc2, hf2⟩ := bcell hb2
  have hz2 := hb2.size
  have HO := Lib.hid how
  have HB2 := Lib.hid hb2
  simp at hz2
  clear how hb2
  go_wp2
  refine bodyPost_ret (v := .agg #[.int .i64 x0, .int .i64 x1, .slice (some a') m c']) (by simp [results, Try.results67, go_sem, hc2]) rfl ⟨a', c', rfl, ?_, ?_⟩
  · obtain ⟨q1, q2, q3, q4, e, h1, h2, h3⟩ := HO.out
    have hlt : m = 0 ∨ w.heap.size + 1 + 1 + 1 ≤ q3 := by
      rcases Nat.eq_zero_or_pos m with h0 | h0
      · exact .inl h0
      · right
        have := (h2.1 h0).2.1
        simpa using this
    refine ⟨q1, q2, q3, q4, e, h1, ⟨fun h0 => ⟨(h2.1 h0).1, by omega, by have := (h2.1 h0).2.2; simpa [World.setCell] using this⟩, fun j hj => ?_⟩, fun j hj => ?_⟩
    · refine (World.cell?_of_block (a := ⟨q3, q4 + j, none⟩) ?_).trans (h2.2 j hj)
      repeat (first | rfl | refine (Below.heap_setCell _ _ _ q3 (by simp <;> omega)).trans ?_)
    · refine (World.frozen?_of_block (a := ⟨q3, q4 + j, none⟩) ?_).trans (h3 j hj)
      repeat (first | rfl | refine (Below.heap_setCell _ _ _ q3 (by simp <;> omega)).trans ?_)
  · have hb := HB2.out
    repeat (first | exact below_via hb (by repeat (first | exact Below.refl _ _ | refine Below.alloc ?_ (by simp <;> omega) _ | refine Below.setCell ?_ (by simp <;> omega) _ | refine Below.drew ?_)) (by simp <;> omega) | refine Below.setCell ?_ (by simp <;> omega) _)

set_option maxRecDepth 100000 in
set_option maxHeartbeats 2000000 in
theorem toBoxS_v (n : Nat) (hn : n ≤ 1048576) (p : Option Addr) (c : Nat) (a : Nat → Int) (nn : Nat → Nat) (hm : ∀ i, i < n → nn i ≤ 1048576) (xx : Nat → Nat → Int) (w : World) (h : NRd w (.slice p n c) n 2 a nn xx) :
    Calls Try.prog 40 #[.slice p n c] w fun e w' => ∃ p' c', e = .returned (.slice p' n c') ∧ NOwn w' w.heap.size w'.heap.size (.slice p' n c') n 2 a nn xx ∧ Below w.heap.size w w' := by
  obtain ⟨i0, hi, hz0, hz1, hz2⟩ := info_parts infoBox
  have hmk := fun W => run_make (P := Try.prog) W 53 74 i0 _ Try.underlying53 hi hz0 .i64 .i64 (n : Int) (n : Int) (by omega) (by omega) (by rw [hz2]; omega) (by omega)
  simp only [Int.toNat_natCast, hz1] at hmk
  obtain ⟨C, hC⟩ : ∃ C, C = madeCells (Value.agg #[.int .i64 0, .int .i64 0, .slice none 0 0]).cells (n * 3) := ⟨_, rfl⟩
  have hCs : C.size = n * 3 := by rw [hC]; exact size_madeCells _ _
  rw [← hC] at hmk
  obtain ⟨p0, c0, g, o, s, he, hc, hf, hr⟩ := h
  injection he with e1 e2 e3
  subst e1 e3
  clear e2
  have hf : FlatAt w 0 w.heap.size p g o (n * 3) (ncell 2 a s) := hf
  have ck := cellsBox
  have ckl := cellsLBox
  have H := Lib.hid hf
  have HR := Lib.hid hr
  have HM := Lib.hid hm
  have HC := Lib.hid hCs
  clear hf hr hm hC hCs hz0 hz1 hz2
  go_enter Try.func40, Try.ntmps40
  go_wp2_with fail
  go_loopw [4] (fun v wr => ∃ (k : Nat) (cur : Array Value) (gg : Nat → Nat), k ≤ n ∧ v = .int .i64 (k : Int) ∧ wr.heap[w.heap.size]? = some (.cells cur 74 (0, 0)) ∧ cur.size = n * 3 ∧
      Hid (∀ j, j < k → (∀ r, r < 2 → cur[j * 3 + r]? = some (.int .i64 (a (j * 3 + r)))) ∧ ∃ u, cur[j * 3 + 2]? = some u ∧ Own wr (gg j) (gg j + 1) u (nn j) (nn j) (xx j) ∧ (0 < nn j → w.heap.size < gg j ∧ gg j < wr.heap.size) ∧ ∃ a c, u = .slice (some a) (nn j) c) ∧ Hid (∀ i j, i < j → j < k → 0 < nn i → 0 < nn j → gg i ≠ gg j) ∧ Below w.heap.size w wr) (fun v _ => n - (intOf v).toNat)
  case atStart => exact ⟨0, C, fun _ => 0, by omega, rfl, heap_alloc_new _ _, HC.out, fun j hj => absurd hj (by omega), fun i j _ hj => absurd hj (by omega), (Below.refl _ _).alloc (Nat.le_refl _) _⟩
  case round =>
    obtain ⟨k, cur, gg, hk, rfl, hblk, hcs, HY, HG, hbw⟩ := hrel
    by_cases hkn : k < n
    · obtain ⟨rfl, -, hg⟩ := H.out.1 (by omega)
      obtain ⟨p1, c1, g1, o1, e1, hc1, hf1⟩ := HR.out k hkn
      obtain ⟨a0, a1, a2⟩ := atBox H.out hkn hbw (Nat.le_refl _)
      rw [e1] at a2
      have ht := Lib.hid (fun W (hW : Below wr.heap.size wr W) => toBox_one (a (k * 3)) (a (k * 3 + 1)) (nn k) (HM.out k hkn) p1 c1 (xx k) W ((show Rd w (.slice p1 (nn k) c1) (nn k) (nn k) (xx k) from ⟨p1, c1, g1, o1, rfl, hc1, hf1⟩).later (hbw.trans (hW.mono hbw.size))))
      have hk0 : (0 : Int) ≤ (k : Int) := by omega
      have hkl : (k : Int) < (n : Int) := by omega
      have hgs : w.heap.size < wr.heap.size := (Array.getElem?_eq_some_iff.1 hblk).1
      have hkw : (k + 1) * 3 ≤ n * 3 := Nat.mul_le_mul_right _ hkn
      obtain ⟨u0, hu0⟩ : ∃ u, cur[k * 3]? = some u := ⟨_, Array.getElem?_eq_getElem (by omega)⟩
      obtain ⟨u1, hu1⟩ : ∃ u, cur[k * 3 + 1]? = some u := ⟨_, Array.getElem?_eq_getElem (by omega)⟩
      obtain ⟨u2, hu2⟩ : ∃ u, cur[k * 3 + 2]? = some u := ⟨_, Array.getElem?_eq_getElem (by omega)⟩
      have HB := Lib.hid hblk
      clear hblk hf1 e1
      go_wp2_with (go_at_call 67; refine (ht.out _ (by first | exact Below.refl _ _ | exact (Below.refl _ _).drew)).mono ?_; rintro e w2 ⟨p2, c2, rfl, hown2, hb2⟩; obtain ⟨q2, d2, g2, o2, hvq, hc2, hf2, hr2⟩ := hown2; injection hvq with hvq1 hvq2 hvq3; subst hvq1; subst hvq3; clear hvq2; have hblk2 := (hb2.block _ hgs).trans HB.out; have b0 := (cell_of_row w2 w.heap.size (k * 3) cur 74 (0, 0) hblk2).trans hu0; have f0 := frozen_of_row w2 w.heap.size (k * 3) cur 74 hblk2; have b1 := (cell_of_row w2 w.heap.size (k * 3 + 1) cur 74 (0, 0) hblk2).trans hu1; have f1 := frozen_of_row w2 w.heap.size (k * 3 + 1) cur 74 hblk2; have b2 := (cell_of_row w2 w.heap.size (k * 3 + 2) cur 74 (0, 0) hblk2).trans hu2; have f2 := frozen_of_row w2 w.heap.size (k * 3 + 2) cur 74 hblk2;  have HB2 := Lib.hid hblk2; have HF2 := Lib.hid hf2; have HR2 := Lib.hid hr2; clear hblk2 hf2 hr2)
      go_roundw
      case rel =>
        obtain ⟨q, hq1, hq2⟩ := Own.lone ⟨some p2, c2, g2, o2, rfl, hc2, HF2.out, HR2.out⟩
        have hs2 := hb2.size
        obtain ⟨gx, hgk, hgo⟩ : ∃ gx : Nat → Nat, gx k = q ∧ ∀ j, j ≠ k → gx j = gg j := ⟨fun j => if j = k then q else gg j, if_pos rfl, fun j hj => if_neg hj⟩
        refine ⟨k + 1, _, gx, by omega, by congr 1, blk_set (blk_set (blk_set (HB2.out) _) _) _, by simp [hcs], ?_, ?_, ?_⟩
        · intro j hj
          by_cases e : j = k
          · subst e
            refine ⟨fun r hr => ?_, .slice (some p2) (nn j) c2, ?_, ?_, fun hm => ?_, _, _, rfl⟩
            · simp only [Array.getElem?_setIfInBounds, Array.size_setIfInBounds]
              rcases (show r = 0 ∨ r = 1 by omega) with rfl | rfl
              · rw [if_neg (by omega), if_neg (by omega), if_pos (by omega), if_pos (by omega)] <;> rfl
              · rw [if_neg (by omega), if_pos (by omega), if_pos (by omega)] <;> rfl
            · simp only [Array.getElem?_setIfInBounds, Array.size_setIfInBounds, if_true]
              rw [if_pos (by omega)]
            · rw [hgk]
              refine hq1.part (fun hm => ?_)
              have := hq2 hm
              repeat (first | rfl | refine (Below.heap_setCell _ _ _ q (by simp <;> omega)).trans ?_)
            · rw [hgk]
              have := hq2 hm
              simp [World.setCell]
              omega
          · obtain ⟨hu0, u, hu1, hu2, hu3, hu4⟩ := HY.out j (by omega)
            refine ⟨fun r hr => ?_, u, ?_, ?_, fun hm => ?_, hu4⟩
            · simp only [Array.getElem?_setIfInBounds, Array.size_setIfInBounds]
              rw [if_neg (by omega), if_neg (by omega), if_neg (by omega)]
              exact hu0 r hr
            · simp only [Array.getElem?_setIfInBounds, Array.size_setIfInBounds]
              rw [if_neg (by omega), if_neg (by omega), if_neg (by omega)]
              exact hu1
            · rw [hgo j e]
              refine hu2.part (fun hm => ?_)
              have := hu3 hm
              repeat (first | exact hb2.block _ (by omega) | refine (Below.heap_setCell _ _ _ (gg j) (by simp <;> omega)).trans ?_)
            · rw [hgo j e]
              have := hu3 hm
              simp [World.setCell]
              omega
        · intro i j hij hj h1 h2
          by_cases e : j = k
          · subst e
            rw [hgo i (by omega), hgk]
            obtain ⟨-, u, -, -, hu3, -⟩ := HY.out i hij
            have := hu3 h1
            have := hq2 h2
            omega
          · rw [hgo i (by omega), hgo j e]
            exact HG.out i j hij (by omega) h1 h2
        · exact Below.setCell (Below.setCell (Below.setCell (hbw.trans (hb2.mono hbw.size)) (Nat.le_refl _) _) (Nat.le_refl _) _) (Nat.le_refl _) _
      case measure => simp only [intOf]; omega
    · obtain rfl : k = n := by omega
      have hgs : w.heap.size < wr.heap.size := (Array.getElem?_eq_some_iff.1 hblk).1
      have HB := Lib.hid hblk
      clear hblk
      go_wp2_with fail
      go_ret
      refine ⟨_, _, rfl, ⟨_, _, w.heap.size, 0, fun j => (cur[j * 3 + 2]?).getD undef, gg, rfl, Nat.le_refl _, ⟨fun _ => ⟨rfl, Nat.le_refl _, hgs⟩, fun j hj => ?_⟩, fun j _ => frozen_of_row wr _ _ _ _ HB.out, fun i hi => ?_, HG.out⟩, hbw⟩
      · rw [Nat.zero_add, cell_of_row wr _ _ _ _ _ HB.out]
        have hj2 : j / 3 < k := (Nat.div_lt_iff_lt_mul (by omega)).2 hj
        obtain ⟨h5, u, h6, -⟩ := HY.out (j / 3) hj2
        show _ = some (ncell 2 a _ j)
        unfold ncell
        by_cases e : j % (2 + 1) = 2
        · rw [if_pos e]
          show _ = some ((cur[j / 3 * 3 + 2]?).getD undef)
          rw [h6]
          rw [show j / 3 * 3 + 2 = j by omega] at h6
          rw [h6]; rfl
        · rw [if_neg e]
          have := h5 (j % 3) (by omega)
          rw [show j / 3 * 3 + j % 3 = j by omega] at this
          exact this
      · obtain ⟨-, u, hu, hu2, hu3, hu4⟩ := HY.out i hi
        refine ⟨by show Own wr _ _ ((cur[i * 3 + 2]?).getD undef) _ _ _; rw [hu]; exact hu2, fun hm => ?_, ?_⟩
        · have := hu3 hm
          omega
        · show ∃ a c, (cur[i * 3 + 2]?).getD undef = _
          rw [hu]; exact hu4

set_option maxRecDepth 100000 in
theorem eqBox_one (x0 x1 : Int) (m : Nat) (hm : m ≤ 1048576) (pa pb : Option Addr) (ca cb : Nat) (z : Nat → Int) (w : World) (ha : Rd w (.slice pa m ca) m m z) (hb : Rd w (.slice pb m cb) m m z) :
    Calls Try.prog 70 #[.agg #[.int .i64 x0, .int .i64 x1, .slice pa m ca], .agg #[.int .i64 x0, .int .i64 x1, .slice pb m cb]] w fun e w' => e = .returned (.bool true) ∧ Below w.heap.size w w' := by
  have hT := Lib.hid (fun W (hw : Below w.heap.size w W) => eqIntS_v m hm z (.slice pa m ca) (.slice pb m cb) W (ha.later hw) (hb.later hw))
  have hne0 : (x0 != x0) = false := by simp
  have hne1 : (x1 != x1) = false := by simp
  clear ha hb
  go_enter Try.func70, Try.ntmps70
  go_wp2_with fail
  refine (hT.out _ (by repeat (first | exact Below.refl _ _ | refine Below.alloc ?_ (by simp <;> omega) _ | refine Below.setCell ?_ (by simp <;> omega) _ | refine Below.drew ?_))).mono ?_
  rintro e w2 ⟨rfl, hb2⟩
  have HB2 := Lib.hid hb2
  clear hb2
  go_wp2
  go_ret
  refine ⟨rfl, below_via HB2.out ?_ ?_⟩
  · repeat (first | exact Below.refl _ _ | refine Below.alloc ?_ (by simp <;> omega) _ | refine Below.setCell ?_ (by simp <;> omega) _ | refine Below.drew ?_)
  · simp <;> omega

set_option maxRecDepth 100000 in
set_option maxHeartbeats 1000000 in
theorem eqBoxS_v (n : Nat) (hn : n ≤ 1048576) (pa pb : Option Addr) (ca cb : Nat) (a : Nat → Int) (nn : Nat → Nat) (hm : ∀ i, i < n → nn i ≤ 1048576) (xx : Nat → Nat → Int) (w : World) (ha : NRd w (.slice pa n ca) n 2 a nn xx) (hb : NRd w (.slice pb n cb) n 2 a nn xx) :
    Calls Try.prog 42 #[.slice pa n ca, .slice pb n cb] w fun e w' => e = .returned (.bool true) ∧ Below w.heap.size w w' := by
  obtain ⟨p0, c0, ga, oa, sa, he, -, hfa, hra⟩ := ha
  injection he with e1 e2 e3
  subst e1 e3
  clear e2
  obtain ⟨p0, c0, gb, ob, sb, he, -, hfb, hrb⟩ := hb
  injection he with e1 e2 e3
  subst e1 e3
  clear e2
  have hfa : FlatAt w 0 w.heap.size pa ga oa (n * 3) (ncell 2 a sa) := hfa
  have hfb : FlatAt w 0 w.heap.size pb gb ob (n * 3) (ncell 2 a sb) := hfb
  have ck := cellsBox
  have HA := Lib.hid hfa
  have HB := Lib.hid hfb
  have RA := Lib.hid hra
  have RB := Lib.hid hrb
  have HM := Lib.hid hm
  clear hfa hfb hra hrb hm
  go_enter Try.func42, Try.ntmps42
  go_wp2_with fail
  go_loopw [5] (fun v wr => ∃ k : Nat, k ≤ n ∧ v = .int .i64 (k : Int) ∧ Below w.heap.size w wr) (fun v _ => n - (intOf v).toNat)
  case atStart => exact ⟨0, by omega, rfl, Below.refl _ _⟩
  case round =>
    obtain ⟨k, hk, rfl, hbw⟩ := hrel
    by_cases hkn : k < n
    · obtain ⟨rfl, -, hga⟩ := HA.out.1 (by omega)
      obtain ⟨rfl, -, hgb⟩ := HB.out.1 (by omega)
      obtain ⟨p1, c1, g1, o1, e1, hc1, hf1⟩ := RA.out k hkn
      obtain ⟨p2, c2, g2, o2, e2, hc2, hf2⟩ := RB.out k hkn
      obtain ⟨a0, a1, a2⟩ := atBox HA.out hkn hbw (Nat.le_refl _)
      obtain ⟨b0, b1, b2⟩ := atBox HB.out hkn hbw (Nat.le_refl _)
      rw [e1] at a2
      rw [e2] at b2
      have hq := Lib.hid (fun W (hW : Below w.heap.size w W) => eqBox_one (a (k * 3)) (a (k * 3 + 1)) (nn k) (HM.out k hkn) p1 p2 c1 c2 (xx k) W ((show Rd w (.slice p1 (nn k) c1) (nn k) (nn k) (xx k) from ⟨p1, c1, g1, o1, rfl, hc1, hf1⟩).later hW) ((show Rd w (.slice p2 (nn k) c2) (nn k) (nn k) (xx k) from ⟨p2, c2, g2, o2, rfl, hc2, hf2⟩).later hW))
      obtain ⟨m, hmk⟩ : ∃ m, m = nn k := ⟨_, rfl⟩
      rw [← hmk] at hq a2 b2
      obtain ⟨v0, hv0⟩ : ∃ v, v = a (k * 3) := ⟨_, rfl⟩
      rw [← hv0] at hq a0 b0
      clear hv0
      obtain ⟨v1, hv1⟩ : ∃ v, v = a (k * 3 + 1) := ⟨_, rfl⟩
      rw [← hv1] at hq a1 b1
      clear hv1
      clear hmk hf1 hf2 e1 e2 hc1 hc2
      have hk0 : (0 : Int) ≤ (k : Int) := by omega
      have hkl : (k : Int) < (n : Int) := by omega
      go_wp2_with fail
      go_region_with (go_at_call 70; refine (hq.out _ (by first | exact hbw | exact hbw.drew)).mono ?_; rintro e w2 ⟨rfl, hb2⟩)
      all_goals
        have hbw2 : Below w.heap.size w w2 := by first | exact hbw.trans (hb2.mono hbw.size) | exact hbw.drew.trans (hb2.mono hbw.size)
        go_wp2_with fail
        go_roundw
        case rel => exact ⟨k + 1, by omega, by congr 1, hbw2⟩
        case measure => simp only [intOf]; omega
    · obtain rfl : k = n := by omega
      go_wp2_with fail
      go_ret
      exact ⟨rfl, hbw⟩

end Go.Proofs.Ytnkhjlpeeljelaa
