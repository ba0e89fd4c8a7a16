/- What the program's HandTime returns. -/
import Derived.Test.YtkdlhapbbnggoabElapse0
import Derived.Test.YtkdlhapbbnggoabBlk
namespace Go.Proofs.Ytkdlhapbbnggoab
open Go.RowKit
set_option linter.unusedVariables false

set_option maxRecDepth 100000 in
set_option maxHeartbeats 8000000 in
theorem iHandTime_v (n : Nat) (z : Nat → Int) (v : Value) (L S V : Int) (w : World) (h : Rd w v n n z) :
    Calls Try.prog 53 #[.agg #[v], .agg #[.int .i64 L, .int .i64 S, .int .i64 V]] w fun e w' => e = .returned (.tuple #[.int .i64 (htI n z L S V), .bool (htB n z L S V)]) ∧ Below w.heap.size w w' := by
  have hpo := Lib.hid (fun (t : Bool) (ht : poB n z = t) W (hW : Below w.heap.size w W) => iPolicyOk_v ht (h.later hW))
  obtain ⟨r1, hr1⟩ : ∃ r, r = htI n z L S V := ⟨_, rfl⟩
  obtain ⟨rb, hrb⟩ : ∃ r, r = htB n z L S V := ⟨_, rfl⟩
  rw [← hr1, ← hrb]
  have hno : ¬ HtP n z L S V → Hid (r1 = 0 ∧ rb = false) := fun h => ⟨hr1.trans (ht_no h).1, hrb.trans (ht_no h).2⟩
  have hyes : HtP n z L S V → Hid (r1 = hT z L S ∧ rb = true) := fun h => ⟨hr1.trans (ht_yes h).1, hrb.trans (ht_yes h).2⟩
  clear hr1 hrb
  have B0 : Hid (Below w.heap.size w ((w.alloc (.cells #[v] 69)).alloc (.cells #[.int .i64 L, .int .i64 S, .int .i64 V] 71))) := ((Below.refl _ _).alloc (Nat.le_refl _) _).alloc (by simp) _
  rcases Bool.eq_false_or_eq_true (poB n z) with p1 | p1
  rotate_left
  · have HN := hno (fun h => poB_not.1 p1 h.1)
    have P1 := Lib.hid p1
    clear p1 hno hyes
    go_enter Try.func53, Try.ntmps53
    go_wp2_with fail
    refine (hpo.out false P1.out _ B0.out).mono ?_
    rintro e w1 ⟨rfl, hb1⟩
    have XP : Hid (w1.heap[w.heap.size]? = some (.cells #[v] 69 (0, 0))) := (hb1.block _ (by simp <;> omega)).trans ((heap_old _ _ _ (by simp)).trans (heap_new _ _ _ rfl))
    have XS : Hid (w1.heap[w.heap.size + 1]? = some (.cells #[.int .i64 L, .int .i64 S, .int .i64 V] 71 (0, 0))) := (hb1.block _ (by simp <;> omega)).trans (heap_new _ _ _ (by simp))
    have B1 := Lib.hid (below_via hb1 B0.out (by simp <;> omega))
    clear hb1
    obtain ⟨a0, -⟩ := cells1 XP.out
    obtain ⟨b0, b1, b2, -⟩ := cells3 XS.out
    go_wp2_with fail
    go_ret2
    exact ⟨by rw [HN.out.1, HN.out.2]; rfl, B1.out⟩
  rcases Bool.eq_false_or_eq_true (scB L S V) with s1 | s1
  rotate_left
  · have HN := hno (fun h => scB_not.1 s1 h.2.1)
    have P1 := Lib.hid p1
    have S1 := Lib.hid s1
    clear p1 s1 hno hyes
    go_enter Try.func53, Try.ntmps53
    go_wp2_with fail
    refine (hpo.out true P1.out _ B0.out).mono ?_
    rintro e w1 ⟨rfl, hb1⟩
    have XP : Hid (w1.heap[w.heap.size]? = some (.cells #[v] 69 (0, 0))) := (hb1.block _ (by simp <;> omega)).trans ((heap_old _ _ _ (by simp)).trans (heap_new _ _ _ rfl))
    have XS : Hid (w1.heap[w.heap.size + 1]? = some (.cells #[.int .i64 L, .int .i64 S, .int .i64 V] 71 (0, 0))) := (hb1.block _ (by simp <;> omega)).trans (heap_new _ _ _ (by simp))
    have B1 := Lib.hid (below_via hb1 B0.out (by simp <;> omega))
    clear hb1
    obtain ⟨a0, -⟩ := cells1 XP.out
    obtain ⟨b0, b1, b2, -⟩ := cells3 XS.out
    go_wp2_with fail
    refine (iScreenOk_at S1.out _).mono ?_
    rintro e w2 ⟨rfl, hb2⟩
    have YP := Lib.hid (blk_later XP.out hb2)
    have YS := Lib.hid (blk_later XS.out hb2)
    have B2 := Lib.hid (B1.out.trans (hb2.mono B1.out.size))
    clear a0 b0 b1 b2
    clear XP XS hb2
    have XP := YP
    have XS := YS
    clear YP YS
    obtain ⟨a0, -⟩ := cells1 XP.out
    obtain ⟨b0, b1, b2, -⟩ := cells3 XS.out
    go_wp2_with fail
    go_ret2
    exact ⟨by rw [HN.out.1, HN.out.2]; rfl, B2.out⟩
  by_cases hV : V = 0
  rotate_left
  · have HN := hno (fun h => hV h.2.2.1)
    have hVd : (V != 0) = true := by simpa using hV
    have P1 := Lib.hid p1
    have S1 := Lib.hid s1
    clear p1 s1 hno hyes hV
    go_enter Try.func53, Try.ntmps53
    go_wp2_with fail
    refine (hpo.out true P1.out _ B0.out).mono ?_
    rintro e w1 ⟨rfl, hb1⟩
    have XP : Hid (w1.heap[w.heap.size]? = some (.cells #[v] 69 (0, 0))) := (hb1.block _ (by simp <;> omega)).trans ((heap_old _ _ _ (by simp)).trans (heap_new _ _ _ rfl))
    have XS : Hid (w1.heap[w.heap.size + 1]? = some (.cells #[.int .i64 L, .int .i64 S, .int .i64 V] 71 (0, 0))) := (hb1.block _ (by simp <;> omega)).trans (heap_new _ _ _ (by simp))
    have B1 := Lib.hid (below_via hb1 B0.out (by simp <;> omega))
    clear hb1
    obtain ⟨a0, -⟩ := cells1 XP.out
    obtain ⟨b0, b1, b2, -⟩ := cells3 XS.out
    go_wp2_with fail
    refine (iScreenOk_at S1.out _).mono ?_
    rintro e w2 ⟨rfl, hb2⟩
    have YP := Lib.hid (blk_later XP.out hb2)
    have YS := Lib.hid (blk_later XS.out hb2)
    have B2 := Lib.hid (B1.out.trans (hb2.mono B1.out.size))
    clear a0 b0 b1 b2
    clear XP XS hb2
    have XP := YP
    have XS := YS
    clear YP YS
    obtain ⟨a0, -⟩ := cells1 XP.out
    obtain ⟨b0, b1, b2, -⟩ := cells3 XS.out
    go_wp2_with fail
    go_ret2
    exact ⟨by rw [HN.out.1, HN.out.2]; rfl, B2.out⟩
  subst hV
  have hp := poB_iff.1 p1
  have hs := scB_iff.1 s1
  have P1 := Lib.hid p1
  have S1 := Lib.hid s1
  clear p1 s1
  obtain rfl : n = 3 := hp.1
  obtain ⟨pp, c, g, o, rfl, hnc, hfl⟩ := h
  have HF := Lib.hid hfl
  obtain ⟨rfl, -, hg⟩ := hfl.1 (by omega)
  clear hfl
  have q0 := hp.2 0 (by omega)
  have q1 := hp.2 1 (by omega)
  have q2 := hp.2 2 (by omega)
  have hs0 := hs.2.1
  have HP := Lib.hid hp
  have HS := Lib.hid hs
  have hL : L = 1 ∨ L = 2 ∨ L = 3 ∨ L = 4 := by have := hs.1; omega
  clear hp hs
  rcases hL with rfl | rfl | rfl | rfl
  · have hT0 : hT z 1 S = S + z 0 + z 1 + (z 2 + 1) := by unfold hT; simp <;> omega
    have HT := Lib.hid hT0
    clear hT0
    by_cases hb : 100000 < S + z 0 + z 1 + (z 2 + 1)
    · have HN := hno (fun h => by have := h.2.2.2; rw [HT.out] at this; omega)
      have hbd : decide (100000 < S + z 0 + z 1 + (z 2 + 1)) = true := decide_eq_true hb
      clear hno hyes
      go_enter Try.func53, Try.ntmps53
      go_wp2_with fail
      refine (hpo.out true P1.out _ B0.out).mono ?_
      rintro e w1 ⟨rfl, hb1⟩
      have XP : Hid (w1.heap[w.heap.size]? = some (.cells #[.slice (some ⟨g, o, none⟩) 3 c] 69 (0, 0))) := (hb1.block _ (by simp <;> omega)).trans ((heap_old _ _ _ (by simp)).trans (heap_new _ _ _ rfl))
      have XS : Hid (w1.heap[w.heap.size + 1]? = some (.cells #[.int .i64 1, .int .i64 S, .int .i64 0] 71 (0, 0))) := (hb1.block _ (by simp <;> omega)).trans (heap_new _ _ _ (by simp))
      have B1 := Lib.hid (below_via hb1 B0.out (by simp <;> omega))
      clear hb1
      obtain ⟨a0, -⟩ := cells1 XP.out
      obtain ⟨b0, b1, b2, -⟩ := cells3 XS.out
      go_wp2_with fail
      refine (iScreenOk_at S1.out _).mono ?_
      rintro e w2 ⟨rfl, hb2⟩
      have YP := Lib.hid (blk_later XP.out hb2)
      have YS := Lib.hid (blk_later XS.out hb2)
      have B2 := Lib.hid (B1.out.trans (hb2.mono B1.out.size))
      clear a0 b0 b1 b2
      clear XP XS hb2
      have XP := YP
      have XS := YS
      clear YP YS
      obtain ⟨a0, -⟩ := cells1 XP.out
      obtain ⟨b0, b1, b2, -⟩ := cells3 XS.out
      have e0 := ((B2.out.cell (p := ⟨g, o + 0, none⟩) hg).trans (HF.out.int 0 (by omega)))
      have e1 := ((B2.out.cell (p := ⟨g, o + 1, none⟩) hg).trans (HF.out.int 1 (by omega)))
      have e2 := ((B2.out.cell (p := ⟨g, o + 2, none⟩) hg).trans (HF.out.int 2 (by omega)))
      rw [Nat.add_zero] at e0
      go_wp2_with fail
      go_ret2
      exact ⟨by rw [HN.out.1, HN.out.2]; rfl, B2.out⟩
    have HN := hyes ⟨HP.out, HS.out, rfl, by rw [HT.out]; omega⟩
    have hbd : decide (100000 < S + z 0 + z 1 + (z 2 + 1)) = false := decide_eq_false hb
    clear hno hyes
    go_enter Try.func53, Try.ntmps53
    go_wp2_with fail
    refine (hpo.out true P1.out _ B0.out).mono ?_
    rintro e w1 ⟨rfl, hb1⟩
    have XP : Hid (w1.heap[w.heap.size]? = some (.cells #[.slice (some ⟨g, o, none⟩) 3 c] 69 (0, 0))) := (hb1.block _ (by simp <;> omega)).trans ((heap_old _ _ _ (by simp)).trans (heap_new _ _ _ rfl))
    have XS : Hid (w1.heap[w.heap.size + 1]? = some (.cells #[.int .i64 1, .int .i64 S, .int .i64 0] 71 (0, 0))) := (hb1.block _ (by simp <;> omega)).trans (heap_new _ _ _ (by simp))
    have B1 := Lib.hid (below_via hb1 B0.out (by simp <;> omega))
    clear hb1
    obtain ⟨a0, -⟩ := cells1 XP.out
    obtain ⟨b0, b1, b2, -⟩ := cells3 XS.out
    go_wp2_with fail
    refine (iScreenOk_at S1.out _).mono ?_
    rintro e w2 ⟨rfl, hb2⟩
    have YP := Lib.hid (blk_later XP.out hb2)
    have YS := Lib.hid (blk_later XS.out hb2)
    have B2 := Lib.hid (B1.out.trans (hb2.mono B1.out.size))
    clear a0 b0 b1 b2
    clear XP XS hb2
    have XP := YP
    have XS := YS
    clear YP YS
    obtain ⟨a0, -⟩ := cells1 XP.out
    obtain ⟨b0, b1, b2, -⟩ := cells3 XS.out
    have e0 := ((B2.out.cell (p := ⟨g, o + 0, none⟩) hg).trans (HF.out.int 0 (by omega)))
    have e1 := ((B2.out.cell (p := ⟨g, o + 1, none⟩) hg).trans (HF.out.int 1 (by omega)))
    have e2 := ((B2.out.cell (p := ⟨g, o + 2, none⟩) hg).trans (HF.out.int 2 (by omega)))
    rw [Nat.add_zero] at e0
    go_wp2_with fail
    go_ret2
    exact ⟨by rw [HN.out.1, HN.out.2, HT.out]; rfl, B2.out⟩
  · have hT0 : hT z 2 S = S + z 1 + (z 2 + 1) := by unfold hT; simp <;> omega
    have HT := Lib.hid hT0
    clear hT0
    by_cases hb : 100000 < S + z 1 + (z 2 + 1)
    · have HN := hno (fun h => by have := h.2.2.2; rw [HT.out] at this; omega)
      have hbd : decide (100000 < S + z 1 + (z 2 + 1)) = true := decide_eq_true hb
      clear hno hyes
      go_enter Try.func53, Try.ntmps53
      go_wp2_with fail
      refine (hpo.out true P1.out _ B0.out).mono ?_
      rintro e w1 ⟨rfl, hb1⟩
      have XP : Hid (w1.heap[w.heap.size]? = some (.cells #[.slice (some ⟨g, o, none⟩) 3 c] 69 (0, 0))) := (hb1.block _ (by simp <;> omega)).trans ((heap_old _ _ _ (by simp)).trans (heap_new _ _ _ rfl))
      have XS : Hid (w1.heap[w.heap.size + 1]? = some (.cells #[.int .i64 2, .int .i64 S, .int .i64 0] 71 (0, 0))) := (hb1.block _ (by simp <;> omega)).trans (heap_new _ _ _ (by simp))
      have B1 := Lib.hid (below_via hb1 B0.out (by simp <;> omega))
      clear hb1
      obtain ⟨a0, -⟩ := cells1 XP.out
      obtain ⟨b0, b1, b2, -⟩ := cells3 XS.out
      go_wp2_with fail
      refine (iScreenOk_at S1.out _).mono ?_
      rintro e w2 ⟨rfl, hb2⟩
      have YP := Lib.hid (blk_later XP.out hb2)
      have YS := Lib.hid (blk_later XS.out hb2)
      have B2 := Lib.hid (B1.out.trans (hb2.mono B1.out.size))
      clear a0 b0 b1 b2
      clear XP XS hb2
      have XP := YP
      have XS := YS
      clear YP YS
      obtain ⟨a0, -⟩ := cells1 XP.out
      obtain ⟨b0, b1, b2, -⟩ := cells3 XS.out
      have e0 := ((B2.out.cell (p := ⟨g, o + 0, none⟩) hg).trans (HF.out.int 0 (by omega)))
      have e1 := ((B2.out.cell (p := ⟨g, o + 1, none⟩) hg).trans (HF.out.int 1 (by omega)))
      have e2 := ((B2.out.cell (p := ⟨g, o + 2, none⟩) hg).trans (HF.out.int 2 (by omega)))
      rw [Nat.add_zero] at e0
      go_wp2_with fail
      go_ret2
      exact ⟨by rw [HN.out.1, HN.out.2]; rfl, B2.out⟩
    have HN := hyes ⟨HP.out, HS.out, rfl, by rw [HT.out]; omega⟩
    have hbd : decide (100000 < S + z 1 + (z 2 + 1)) = false := decide_eq_false hb
    clear hno hyes
    go_enter Try.func53, Try.ntmps53
    go_wp2_with fail
    refine (hpo.out true P1.out _ B0.out).mono ?_
    rintro e w1 ⟨rfl, hb1⟩
    have XP : Hid (w1.heap[w.heap.size]? = some (.cells #[.slice (some ⟨g, o, none⟩) 3 c] 69 (0, 0))) := (hb1.block _ (by simp <;> omega)).trans ((heap_old _ _ _ (by simp)).trans (heap_new _ _ _ rfl))
    have XS : Hid (w1.heap[w.heap.size + 1]? = some (.cells #[.int .i64 2, .int .i64 S, .int .i64 0] 71 (0, 0))) := (hb1.block _ (by simp <;> omega)).trans (heap_new _ _ _ (by simp))
    have B1 := Lib.hid (below_via hb1 B0.out (by simp <;> omega))
    clear hb1
    obtain ⟨a0, -⟩ := cells1 XP.out
    obtain ⟨b0, b1, b2, -⟩ := cells3 XS.out
    go_wp2_with fail
    refine (iScreenOk_at S1.out _).mono ?_
    rintro e w2 ⟨rfl, hb2⟩
    have YP := Lib.hid (blk_later XP.out hb2)
    have YS := Lib.hid (blk_later XS.out hb2)
    have B2 := Lib.hid (B1.out.trans (hb2.mono B1.out.size))
    clear a0 b0 b1 b2
    clear XP XS hb2
    have XP := YP
    have XS := YS
    clear YP YS
    obtain ⟨a0, -⟩ := cells1 XP.out
    obtain ⟨b0, b1, b2, -⟩ := cells3 XS.out
    have e0 := ((B2.out.cell (p := ⟨g, o + 0, none⟩) hg).trans (HF.out.int 0 (by omega)))
    have e1 := ((B2.out.cell (p := ⟨g, o + 1, none⟩) hg).trans (HF.out.int 1 (by omega)))
    have e2 := ((B2.out.cell (p := ⟨g, o + 2, none⟩) hg).trans (HF.out.int 2 (by omega)))
    rw [Nat.add_zero] at e0
    go_wp2_with fail
    go_ret2
    exact ⟨by rw [HN.out.1, HN.out.2, HT.out]; rfl, B2.out⟩
  · have hT0 : hT z 3 S = S + (z 2 + 1) := by unfold hT; simp <;> omega
    have HT := Lib.hid hT0
    clear hT0
    by_cases hb : 100000 < S + (z 2 + 1)
    · have HN := hno (fun h => by have := h.2.2.2; rw [HT.out] at this; omega)
      have hbd : decide (100000 < S + (z 2 + 1)) = true := decide_eq_true hb
      clear hno hyes
      go_enter Try.func53, Try.ntmps53
      go_wp2_with fail
      refine (hpo.out true P1.out _ B0.out).mono ?_
      rintro e w1 ⟨rfl, hb1⟩
      have XP : Hid (w1.heap[w.heap.size]? = some (.cells #[.slice (some ⟨g, o, none⟩) 3 c] 69 (0, 0))) := (hb1.block _ (by simp <;> omega)).trans ((heap_old _ _ _ (by simp)).trans (heap_new _ _ _ rfl))
      have XS : Hid (w1.heap[w.heap.size + 1]? = some (.cells #[.int .i64 3, .int .i64 S, .int .i64 0] 71 (0, 0))) := (hb1.block _ (by simp <;> omega)).trans (heap_new _ _ _ (by simp))
      have B1 := Lib.hid (below_via hb1 B0.out (by simp <;> omega))
      clear hb1
      obtain ⟨a0, -⟩ := cells1 XP.out
      obtain ⟨b0, b1, b2, -⟩ := cells3 XS.out
      go_wp2_with fail
      refine (iScreenOk_at S1.out _).mono ?_
      rintro e w2 ⟨rfl, hb2⟩
      have YP := Lib.hid (blk_later XP.out hb2)
      have YS := Lib.hid (blk_later XS.out hb2)
      have B2 := Lib.hid (B1.out.trans (hb2.mono B1.out.size))
      clear a0 b0 b1 b2
      clear XP XS hb2
      have XP := YP
      have XS := YS
      clear YP YS
      obtain ⟨a0, -⟩ := cells1 XP.out
      obtain ⟨b0, b1, b2, -⟩ := cells3 XS.out
      have e0 := ((B2.out.cell (p := ⟨g, o + 0, none⟩) hg).trans (HF.out.int 0 (by omega)))
      have e1 := ((B2.out.cell (p := ⟨g, o + 1, none⟩) hg).trans (HF.out.int 1 (by omega)))
      have e2 := ((B2.out.cell (p := ⟨g, o + 2, none⟩) hg).trans (HF.out.int 2 (by omega)))
      rw [Nat.add_zero] at e0
      go_wp2_with fail
      go_ret2
      exact ⟨by rw [HN.out.1, HN.out.2]; rfl, B2.out⟩
    have HN := hyes ⟨HP.out, HS.out, rfl, by rw [HT.out]; omega⟩
    have hbd : decide (100000 < S + (z 2 + 1)) = false := decide_eq_false hb
    clear hno hyes
    go_enter Try.func53, Try.ntmps53
    go_wp2_with fail
    refine (hpo.out true P1.out _ B0.out).mono ?_
    rintro e w1 ⟨rfl, hb1⟩
    have XP : Hid (w1.heap[w.heap.size]? = some (.cells #[.slice (some ⟨g, o, none⟩) 3 c] 69 (0, 0))) := (hb1.block _ (by simp <;> omega)).trans ((heap_old _ _ _ (by simp)).trans (heap_new _ _ _ rfl))
    have XS : Hid (w1.heap[w.heap.size + 1]? = some (.cells #[.int .i64 3, .int .i64 S, .int .i64 0] 71 (0, 0))) := (hb1.block _ (by simp <;> omega)).trans (heap_new _ _ _ (by simp))
    have B1 := Lib.hid (below_via hb1 B0.out (by simp <;> omega))
    clear hb1
    obtain ⟨a0, -⟩ := cells1 XP.out
    obtain ⟨b0, b1, b2, -⟩ := cells3 XS.out
    go_wp2_with fail
    refine (iScreenOk_at S1.out _).mono ?_
    rintro e w2 ⟨rfl, hb2⟩
    have YP := Lib.hid (blk_later XP.out hb2)
    have YS := Lib.hid (blk_later XS.out hb2)
    have B2 := Lib.hid (B1.out.trans (hb2.mono B1.out.size))
    clear a0 b0 b1 b2
    clear XP XS hb2
    have XP := YP
    have XS := YS
    clear YP YS
    obtain ⟨a0, -⟩ := cells1 XP.out
    obtain ⟨b0, b1, b2, -⟩ := cells3 XS.out
    have e0 := ((B2.out.cell (p := ⟨g, o + 0, none⟩) hg).trans (HF.out.int 0 (by omega)))
    have e1 := ((B2.out.cell (p := ⟨g, o + 1, none⟩) hg).trans (HF.out.int 1 (by omega)))
    have e2 := ((B2.out.cell (p := ⟨g, o + 2, none⟩) hg).trans (HF.out.int 2 (by omega)))
    rw [Nat.add_zero] at e0
    go_wp2_with fail
    go_ret2
    exact ⟨by rw [HN.out.1, HN.out.2, HT.out]; rfl, B2.out⟩
  · have hT0 : hT z 4 S = S := by unfold hT; simp <;> omega
    have HT := Lib.hid hT0
    clear hT0
    by_cases hb : 100000 < S
    · exact absurd hb (by omega)
    have HN := hyes ⟨HP.out, HS.out, rfl, by rw [HT.out]; omega⟩
    have hbd : decide (100000 < S) = false := decide_eq_false hb
    clear hno hyes
    go_enter Try.func53, Try.ntmps53
    go_wp2_with fail
    refine (hpo.out true P1.out _ B0.out).mono ?_
    rintro e w1 ⟨rfl, hb1⟩
    have XP : Hid (w1.heap[w.heap.size]? = some (.cells #[.slice (some ⟨g, o, none⟩) 3 c] 69 (0, 0))) := (hb1.block _ (by simp <;> omega)).trans ((heap_old _ _ _ (by simp)).trans (heap_new _ _ _ rfl))
    have XS : Hid (w1.heap[w.heap.size + 1]? = some (.cells #[.int .i64 4, .int .i64 S, .int .i64 0] 71 (0, 0))) := (hb1.block _ (by simp <;> omega)).trans (heap_new _ _ _ (by simp))
    have B1 := Lib.hid (below_via hb1 B0.out (by simp <;> omega))
    clear hb1
    obtain ⟨a0, -⟩ := cells1 XP.out
    obtain ⟨b0, b1, b2, -⟩ := cells3 XS.out
    go_wp2_with fail
    refine (iScreenOk_at S1.out _).mono ?_
    rintro e w2 ⟨rfl, hb2⟩
    have YP := Lib.hid (blk_later XP.out hb2)
    have YS := Lib.hid (blk_later XS.out hb2)
    have B2 := Lib.hid (B1.out.trans (hb2.mono B1.out.size))
    clear a0 b0 b1 b2
    clear XP XS hb2
    have XP := YP
    have XS := YS
    clear YP YS
    obtain ⟨a0, -⟩ := cells1 XP.out
    obtain ⟨b0, b1, b2, -⟩ := cells3 XS.out
    have e0 := ((B2.out.cell (p := ⟨g, o + 0, none⟩) hg).trans (HF.out.int 0 (by omega)))
    have e1 := ((B2.out.cell (p := ⟨g, o + 1, none⟩) hg).trans (HF.out.int 1 (by omega)))
    have e2 := ((B2.out.cell (p := ⟨g, o + 2, none⟩) hg).trans (HF.out.int 2 (by omega)))
    rw [Nat.add_zero] at e0
    go_wp2_with fail
    go_ret2
    exact ⟨by rw [HN.out.1, HN.out.2, HT.out]; rfl, B2.out⟩

end Go.Proofs.Ytkdlhapbbnggoab
