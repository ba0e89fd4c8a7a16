/- The laws' own functions over lanes: size, copy, comparison of equal ones. -/
import Derived.Test.YtokhkcebdbopcaaRowKept
import Derived.Test.YtokhkcebdbopcaaLanes
namespace Go.Proofs.Ytokhkcebdbopcaa
open Go.RowKit
set_option linter.unusedVariables false

/-- How many bags the first n lanes have. -/
def tot (nn : Nat → Nat) : Nat → Nat
  | 0 => 0
  | n + 1 => tot nn n + nn n
theorem tot_le {nn : Nat → Nat} {n m : Nat} (h : n ≤ m) : tot nn n ≤ tot nn m := by
  induction m with
  | zero => obtain rfl : n = 0 := by omega
            exact Nat.le_refl _
  | succ m ih =>
    by_cases e : n = m + 1
    · subst e; exact Nat.le_refl _
    · have := ih (by omega)
      show _ ≤ tot nn m + nn m
      omega
theorem tot_one {nn : Nat → Nat} {i n : Nat} (h : i < n) : nn i ≤ tot nn n := by
  have := tot_le (nn := nn) (show i + 1 ≤ n from h)
  have e : tot nn (i + 1) = tot nn i + nn i := rfl
  omega

set_option maxRecDepth 100000 in
set_option maxHeartbeats 1000000 in
theorem szKeptSS_v (n : Nat) (p : Option Addr) (c : Nat) (l : Nat) (hl : l ≤ 1099511627776) (hn : n ≤ maxLen) (nn : Nat → Nat) (hm : ∀ i, i < n → nn i ≤ maxLen) (xx : Nat → Nat → Int) (w : World) (h : LRd w (.slice p n c) n nn xx) :
    Calls Try.prog 48 #[.slice p n c, .int .i64 (l : Int)] w fun e w' => e = .returned (.int .i64 (if n + tot nn n ≤ l then ((l - (n + tot nn n) : Nat) : Int) else -1)) ∧ w = w' := by
  obtain ⟨p0, c0, g, o, s, he, hc, hf, hr⟩ := h
  injection he with e1 e2 e3
  subst e1 e3
  clear e2
  have H := Lib.hid hf
  have HR := Lib.hid hr
  have HM := Lib.hid hm
  clear hf hr hm
  have hn' : n ≤ maxLen := hn
  unfold maxLen at hn'
  obtain ⟨R, hR⟩ : ∃ R : Int, R = if n + tot nn n ≤ l then ((l - (n + tot nn n) : Nat) : Int) else -1 := ⟨_, rfl⟩
  rw [← hR]
  have HRR := Lib.hid hR
  clear hR
  by_cases h0 : n ≤ l
  rotate_left
  · have h2 : (l : Int) - (n : Int) < 0 := by omega
    obtain rfl : R = -1 := by rw [HRR.out, if_neg (by omega)]
    go_enter Try.func48, Try.ntmps48
    go_wp2
    go_ret
    exact ⟨rfl, rfl⟩
  have h1 : (l : Int) - (n : Int) = ((l - n : Nat) : Int) := by omega
  have h2 : decide ((l : Int) - (n : Int) < 0) = false := decide_eq_false (by omega)
  have H1 := Lib.hid h1
  clear h1
  go_enter Try.func48, Try.ntmps48
  go_wp2_with fail
  go_loopw [1, 5] (fun lv iv wr => ∃ k : Nat, k ≤ n ∧ iv = .int .i64 (k : Int) ∧ Hid (n + tot nn k ≤ l) ∧ lv = .int .i64 ((l - (n + tot nn k) : Nat) : Int) ∧ w = wr) (fun _ iv _ => n - (intOf iv).toNat)
  case atStart => exact ⟨0, by omega, rfl, by show n + 0 ≤ l; omega, by rw [H1.out]; rfl, rfl⟩
  case round =>
    obtain ⟨k, hk, rfl, HT, rfl, rfl⟩ := hrel
    obtain ⟨q, hq⟩ : ∃ q, q = l - (n + tot nn k) := ⟨_, rfl⟩
    have HQ := Lib.hid hq
    rw [← hq]
    have hq9 : q ≤ 1099511627776 := by omega
    clear hq
    by_cases hkn : k < n
    · obtain ⟨rfl, -, hg⟩ := H.out.1 (by omega)
      obtain ⟨p1, c1, g1, o1, e1, hc1, hf1⟩ := HR.out k hkn
      have a0 := H.out.2 k hkn
      rw [e1] at a0
      have hz := Lib.hid (szKeptS_v (nn k) (.slice p1 (nn k) c1) q hq9 (HM.out k hkn) (nn k * 2) (xx k) w ⟨p1, c1, g1, o1, rfl, hc1, hf1⟩)
      have hk0 : (0 : Int) ≤ (k : Int) := by omega
      have hkl : (k : Int) < (n : Int) := by omega
      have hwk : IntKind.i64.wrap ((k : Int) + 1) = (k : Int) + 1 := IntWalk.i64_in _ (by omega)
      have HK := Lib.hid hkn
      clear hf1 e1
      by_cases hx : nn k ≤ q
      · simp only [if_pos hx] at hz
        have hd : decide (((q - nn k : Nat) : Int) < 0) = false := decide_eq_false (by omega)
        have HX := Lib.hid hx
        clear hx
        go_wp2_with (go_at_call 83; refine hz.out.mono ?_; rintro e w2 ⟨rfl, rfl⟩)
        go_roundw
        case rel => exact ⟨k + 1, by omega, by congr 1, by have := HX.out; have := HQ.out; have := HT.out; show n + (tot nn k + nn k) ≤ l; omega, by congr 1; have := HX.out; have := HQ.out; have := HT.out; show _ = ((l - (n + (tot nn k + nn k)) : Nat) : Int); omega, by first | rfl | trivial⟩
        case measure => simp only [intOf]; omega
      · simp only [if_neg hx] at hz
        have hN : ¬ (n + tot nn n ≤ l) := by
          have h5 := tot_le (nn := nn) (show k + 1 ≤ n from hkn)
          have e : tot nn (k + 1) = tot nn k + nn k := rfl
          have := HQ.out
          have := HT.out
          omega
        obtain rfl : R = -1 := by rw [HRR.out, if_neg hN]
        clear hx hN
        go_wp2_with (go_at_call 83; refine hz.out.mono ?_; rintro e w2 ⟨rfl, rfl⟩)
        go_ret
        exact ⟨rfl, rfl⟩
    · obtain rfl : k = n := by omega
      obtain rfl : R = (q : Int) := by rw [HRR.out, if_pos HT.out, HQ.out]
      go_wp2_with fail
      go_ret
      exact ⟨rfl, rfl⟩

theorem infoLane : (Try.prog.info? 47).map (fun i => (i.zero, i.size, i.bytes)) = some (some (.slice none 0 0), 1, 24) := by kernel_rfl

set_option maxRecDepth 100000 in
set_option maxHeartbeats 1000000 in
theorem toKeptSS_v (n : Nat) (hn : n ≤ 1048576) (p : Option Addr) (c : Nat) (nn : Nat → Nat) (hm : ∀ i, i < n → nn i ≤ 1048576) (xx : Nat → Nat → Int) (w : World) (h : LRd w (.slice p n c) n nn xx) :
    Calls Try.prog 51 #[.slice p n c] w fun e w' => ∃ p' c', e = .returned (.slice p' n c') ∧ LOwn w' w.heap.size w'.heap.size (.slice p' n c') n nn xx ∧ Below w.heap.size w w' := by
  obtain ⟨i0, hi, hz0, hz1, hz2⟩ := info_parts infoLane
  have hmk := fun W => run_make (P := Try.prog) W 27 47 i0 _ Try.underlying27 hi hz0 .i64 .i64 (n : Int) (n : Int) (by omega) (by omega) (by rw [hz2]; omega) (by omega)
  simp only [Int.toNat_natCast, hz1] at hmk
  obtain ⟨C, hC⟩ : ∃ C, C = madeCells (Value.slice none 0 0).cells (n * 1) := ⟨_, rfl⟩
  have hCs : C.size = n := by rw [hC, size_madeCells]; omega
  rw [← hC] at hmk
  obtain ⟨p0, c0, g, o, s, he, hc, hf, hr⟩ := h
  injection he with e1 e2 e3
  subst e1 e3
  clear e2
  have H := Lib.hid hf
  have HR := Lib.hid hr
  have HM := Lib.hid hm
  have HC := Lib.hid hCs
  clear hf hr hm hC hCs hz0 hz1 hz2
  go_enter Try.func51, Try.ntmps51
  go_wp2_with fail
  go_loopw [4] (fun v wr => ∃ (k : Nat) (cur : Array Value) (gg : Nat → Nat), k ≤ n ∧ v = .int .i64 (k : Int) ∧ wr.heap[w.heap.size]? = some (.cells cur 47 (0, 0)) ∧ cur.size = n ∧
      Hid (∀ j, j < k → ∃ u, cur[j]? = some u ∧ Own wr (gg j) (gg j + 1) u (nn j) (nn j * 2) (xx j) ∧ (0 < nn j → w.heap.size < gg j ∧ gg j < wr.heap.size) ∧ ∃ a c, u = .slice (some a) (nn j) c) ∧ Hid (∀ i j, i < j → j < k → 0 < nn i → 0 < nn j → gg i ≠ gg j) ∧ Below w.heap.size w wr) (fun v _ => n - (intOf v).toNat)
  case atStart => exact ⟨0, C, fun _ => 0, by omega, rfl, heap_alloc_new _ _, HC.out, fun j hj => absurd hj (by omega), fun i j _ hj => absurd hj (by omega), (Below.refl _ _).alloc (Nat.le_refl _) _⟩
  case round =>
    obtain ⟨k, cur, gg, hk, rfl, hblk, hcs, HY, HG, hbw⟩ := hrel
    by_cases hkn : k < n
    · obtain ⟨rfl, -, hg⟩ := H.out.1 (by omega)
      obtain ⟨p1, c1, g1, o1, e1, hc1, hf1⟩ := HR.out k hkn
      have a0 := (hbw.cell (p := ⟨g, o + k, none⟩) hg).trans (H.out.2 k hkn)
      rw [e1] at a0
      have ht := Lib.hid (fun W (hW : Below wr.heap.size wr W) => toKeptS_v (nn k) (HM.out k hkn) (xx k) (.slice p1 (nn k) c1) W ((show Rd w (.slice p1 (nn k) c1) (nn k) (nn k * 2) (xx k) from ⟨p1, c1, g1, o1, rfl, hc1, hf1⟩).later (hbw.trans (hW.mono hbw.size))))
      have hk0 : (0 : Int) ≤ (k : Int) := by omega
      have hkl : (k : Int) < (n : Int) := by omega
      have hgs : w.heap.size < wr.heap.size := (Array.getElem?_eq_some_iff.1 hblk).1
      obtain ⟨u0, hu0⟩ : ∃ u, cur[k]? = some u := ⟨_, Array.getElem?_eq_getElem (by omega)⟩
      have HB := Lib.hid hblk
      clear hblk hf1 e1
      go_wp2_with (go_at_call 84; refine (ht.out _ (by first | exact Below.refl _ _ | exact (Below.refl _ _).drew)).mono ?_; rintro e w2 ⟨p2, c2, rfl, hown2, hb2⟩; obtain ⟨q2, d2, g2, o2, hvq, hc2, hf2, hr2⟩ := hown2; injection hvq with hvq1 hvq2 hvq3; subst hvq1; subst hvq3; clear hvq2; have hblk2 := (hb2.block _ hgs).trans HB.out; have b0 := (cell_of_row w2 w.heap.size k cur 47 (0, 0) hblk2).trans hu0; have f0 := frozen_of_row w2 w.heap.size k cur 47 hblk2; have HB2 := Lib.hid hblk2; have HF2 := Lib.hid hf2; have HR2 := Lib.hid hr2; clear hblk2 hf2 hr2)
      go_roundw
      case rel =>
        obtain ⟨q, hq1, hq2⟩ := Own.lone ⟨some p2, c2, g2, o2, rfl, hc2, HF2.out, HR2.out⟩
        have hkeep : ∀ j, j ≠ w.heap.size → (w2.setCell ⟨w.heap.size, k, none⟩ (.slice (some p2) (nn k) c2)).heap[j]? = w2.heap[j]? := fun j hj => Below.heap_setCell _ _ _ _ (by intro e; exact hj e)
        have hs2 := hb2.size
        obtain ⟨gx, hgk, hgo⟩ : ∃ gx : Nat → Nat, gx k = q ∧ ∀ j, j ≠ k → gx j = gg j := ⟨fun j => if j = k then q else gg j, if_pos rfl, fun j hj => if_neg hj⟩
        refine ⟨k + 1, _, gx, by omega, by congr 1, blk_set HB2.out _, by simp [hcs], ?_, ?_, ?_⟩
        · intro j hj
          by_cases e : j = k
          · subst e
            refine ⟨.slice (some p2) (nn j) c2, by simp only [Array.getElem?_setIfInBounds, if_true]; rw [if_pos (by omega)], ?_, fun hm => ?_, _, _, rfl⟩
            · rw [hgk]
              exact hq1.part (fun hm => hkeep q (by have := hq2 hm; omega))
            · rw [hgk]
              have := hq2 (by omega)
              simp [World.setCell]
              omega
          · obtain ⟨u, hu1, hu2, hu3, hu4⟩ := HY.out j (by omega)
            refine ⟨u, by simp only [Array.getElem?_setIfInBounds]; rw [if_neg (fun h => e h.symm)]; exact hu1, ?_, fun hm => ?_, hu4⟩
            · rw [hgo j e]
              exact hu2.part (fun hm => (hkeep _ (by have := hu3 (by omega); omega)).trans (hb2.block _ (by have := hu3 (by omega); omega)))
            · rw [hgo j e]
              have := hu3 hm
              simp [World.setCell]
              omega
        · intro i j hij hj h1 h2
          by_cases e : j = k
          · subst e
            rw [hgo i (by omega), hgk]
            obtain ⟨u, -, -, hu3, -⟩ := HY.out i hij
            have := hu3 h1
            have := hq2 (by omega)
            omega
          · rw [hgo i (by omega), hgo j e]
            exact HG.out i j hij (by omega) h1 h2
        · exact Below.setCell (hbw.trans (hb2.mono hbw.size)) (Nat.le_refl _) _
      case measure => simp only [intOf]; omega
    · obtain rfl : k = n := by omega
      have hgs : w.heap.size < wr.heap.size := (Array.getElem?_eq_some_iff.1 hblk).1
      have HB := Lib.hid hblk
      clear hblk
      go_wp2_with fail
      go_ret
      refine ⟨_, _, rfl, ⟨_, _, w.heap.size, 0, fun j => (cur[j]?).getD undef, gg, rfl, Nat.le_refl _, ⟨fun _ => ⟨rfl, Nat.le_refl _, hgs⟩, fun j hj => ?_⟩, fun j _ => frozen_of_row wr _ _ _ _ HB.out, fun i hi => ?_, HG.out⟩, hbw⟩
      · rw [Nat.zero_add, cell_of_row wr _ _ _ _ _ HB.out]
        obtain ⟨u, hu, -⟩ := HY.out j hj
        show _ = some ((cur[j]?).getD undef)
        rw [hu]; rfl
      · obtain ⟨u, hu, hu2, hu3, hu4⟩ := HY.out i hi
        refine ⟨by show Own wr _ _ ((cur[i]?).getD undef) _ _ _; rw [hu]; exact hu2, fun hm => ?_, ?_⟩
        · have := hu3 hm
          omega
        · show ∃ a c, (cur[i]?).getD undef = _
          rw [hu]; exact hu4

set_option maxRecDepth 100000 in
set_option maxHeartbeats 1000000 in
theorem eqKeptSS_v (n : Nat) (hn : n ≤ 1048576) (pa pb : Option Addr) (ca cb : Nat) (nn : Nat → Nat) (hm : ∀ i, i < n → nn i ≤ 1048576) (xx : Nat → Nat → Int) (w : World) (ha : LRd w (.slice pa n ca) n nn xx) (hb : LRd w (.slice pb n cb) n nn xx) :
    Calls Try.prog 54 #[.slice pa n ca, .slice pb n cb] w fun e w' => e = .returned (.bool true) ∧ Below w.heap.size w w' := by
  obtain ⟨p0, c0, ga, oa, sa, he, -, hfa, hra⟩ := ha
  injection he with e1 e2 e3
  subst e1 e3
  clear e2
  obtain ⟨p0, c0, gb, ob, sb, he, -, hfb, hrb⟩ := hb
  injection he with e1 e2 e3
  subst e1 e3
  clear e2
  have HA := Lib.hid hfa
  have HB := Lib.hid hfb
  have RA := Lib.hid hra
  have RB := Lib.hid hrb
  have HM := Lib.hid hm
  clear hfa hfb hra hrb hm
  go_enter Try.func54, Try.ntmps54
  go_wp2_with fail
  go_loopw [5] (fun v wr => ∃ k : Nat, k ≤ n ∧ v = .int .i64 (k : Int) ∧ Below w.heap.size w wr) (fun v _ => n - (intOf v).toNat)
  case atStart => exact ⟨0, by omega, rfl, Below.refl _ _⟩
  case round =>
    obtain ⟨k, hk, rfl, hbw⟩ := hrel
    by_cases hkn : k < n
    · obtain ⟨rfl, -, hga⟩ := HA.out.1 (by omega)
      obtain ⟨rfl, -, hgb⟩ := HB.out.1 (by omega)
      obtain ⟨p1, c1, g1, o1, e1, hc1, hf1⟩ := RA.out k hkn
      obtain ⟨p2, c2, g2, o2, e2, hc2, hf2⟩ := RB.out k hkn
      have a0 := (hbw.cell (p := ⟨ga, oa + k, none⟩) hga).trans (HA.out.2 k (by omega))
      have b0 := (hbw.cell (p := ⟨gb, ob + k, none⟩) hgb).trans (HB.out.2 k (by omega))
      rw [e1] at a0
      rw [e2] at b0
      have hq := Lib.hid (fun W (hW : Below w.heap.size w W) => eqKeptS_v (nn k) (HM.out k hkn) (xx k) (.slice p1 (nn k) c1) (.slice p2 (nn k) c2) W ((show Rd w (.slice p1 (nn k) c1) (nn k) (nn k * 2) (xx k) from ⟨p1, c1, g1, o1, rfl, hc1, hf1⟩).later hW) ((show Rd w (.slice p2 (nn k) c2) (nn k) (nn k * 2) (xx k) from ⟨p2, c2, g2, o2, rfl, hc2, hf2⟩).later hW))
      obtain ⟨m, hmk⟩ : ∃ m, m = nn k := ⟨_, rfl⟩
      rw [← hmk] at hq a0 b0
      clear hmk hf1 hf2 e1 e2 hc1 hc2
      have hk0 : (0 : Int) ≤ (k : Int) := by omega
      have hkl : (k : Int) < (n : Int) := by omega
      go_wp2_with fail
      go_region_with (go_at_call 86; refine (hq.out _ (by first | exact hbw | exact hbw.drew)).mono ?_; rintro e w2 ⟨rfl, hb2⟩)
      all_goals
        have hbw2 : Below w.heap.size w w2 := by first | exact hbw.trans (hb2.mono hbw.size) | exact hbw.drew.trans (hb2.mono hbw.size)
        go_wp2_with fail
        go_roundw
        case rel => exact ⟨k + 1, by omega, by congr 1, hbw2⟩
        case measure => simp only [intOf]; omega
    · obtain rfl : k = n := by omega
      go_wp2_with fail
      go_ret
      exact ⟨rfl, hbw⟩

end Go.Proofs.Ytokhkcebdbopcaa
