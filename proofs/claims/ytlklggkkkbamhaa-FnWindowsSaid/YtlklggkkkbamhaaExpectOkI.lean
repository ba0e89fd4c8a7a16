/- What the program's ExpectOk returns. -/
import Derived.Test.YtlklggkkkbamhaaHasE
import Derived.Test.YtlklggkkkbamhaaIn
import Derived.Test.YtlklggkkkbamhaaLater
import Derived.Deep.LoopGhost
namespace Go.Proofs.Ytlklggkkkbamhaa
open Go.RowKit
set_option linter.unusedVariables false

set_option maxRecDepth 100000 in
set_option maxHeartbeats 4000000 in
theorem iExpectOk_any (n : Nat) (hn : n ≤ maxLen) (z : Nat → Int) (p : Option Addr) (c g o : Nat) (w : World) (h : FlatAt w 0 w.heap.size p g o (n * 3) (fun j => .int .i64 (z j))) (hc : n ≤ c) :
    Calls Try.prog 20 #[.slice p n c] w fun e w' => e = .returned (.bool (exB n z)) ∧ Below w.heap.size w w' := by
  unfold maxLen at hn
  have c3 := cellsexpected
  have HF := Lib.hid h
  clear h
  by_cases h3 : n ≤ 6
  · go_enter Try.func20, Try.ntmps20
    go_wp2_with fail
    go_loopw [10] (fun v wr => ∃ k : Nat, k ≤ n ∧ v = .int .i64 (k : Int) ∧ Below w.heap.size w wr ∧ Hid (∀ j, j < k → okE z j)) (fun v _ => n - (intOf v).toNat)
    case atStart => exact ⟨0, by omega, rfl, Below.refl _ _, fun j hj => absurd hj (by omega)⟩
    case round =>
      obtain ⟨k, hk, rfl, hbw, HN⟩ := hrel
      by_cases hkn : k < n
      · obtain ⟨rfl, -, hg⟩ := HF.out.1 (by omega)
        obtain ⟨a0, a1, a2⟩ := HF.out.at3 hbw (Nat.le_refl _) k (by omega)
        have hk0 : (0 : Int) ≤ (k : Int) := by omega
        have hkl : (k : Int) < (n : Int) := by omega
        have hkc : (k : Int) ≤ (c : Int) := by omega
        have hkcN : k ≤ c := by omega
        have hnk : ∀ X : okE z k → False, exB n z = false := fun X => exB_no (fun h => X (h.2 k hkn))
        have hfr := Lib.hid (fun W (hW : Below w.heap.size w W) (t : Bool) (ht : t = true ↔ hasE z k (z (k * 3))) => expected_any k (by unfold maxLen; omega) z (some ⟨g, o, none⟩) c g o (z (k * 3)) W (((HF.out.below hW (Nat.le_refl _)).wide (Nat.zero_le _) hW.size).less (by omega)) t ht)
        obtain ⟨x0, hx0⟩ : ∃ x, x = z (k * 3) := ⟨_, rfl⟩
        obtain ⟨x1, hx1⟩ : ∃ x, x = z (k * 3 + 1) := ⟨_, rfl⟩
        obtain ⟨x2, hx2⟩ : ∃ x, x = z (k * 3 + 2) := ⟨_, rfl⟩
        have hok : okE z k ↔ 1 ≤ x0 ∧ ¬ hasE z k x0 ∧ 0 ≤ x1 ∧ x1 ≤ x2 ∧ x2 ≤ 100000 := by rw [hx0, hx1, hx2]; exact Iff.rfl
        rw [← hx0] at a0 hfr
        rw [← hx1] at a1
        rw [← hx2] at a2
        have HOK := Lib.hid hok
        have HNK := Lib.hid hnk
        clear hx0 hx1 hx2 hok hnk
        obtain ⟨wo, hwo⟩ : ∃ wo, wo = wr.alloc (.cells #[.int .i64 x0, .int .i64 x1, .int .i64 x2] 46) := ⟨_, rfl⟩
        have hbo : Below w.heap.size w wo := by rw [hwo]; exact hbw.alloc hbw.size _
        have hso : w.heap.size ≤ wo.heap.size := hbo.size
        have e0 : wo.cell? ⟨wr.heap.size, 0, none⟩ = some (.int .i64 x0) := by rw [hwo, cell_of_row _ _ _ _ _ _ (heap_alloc_new wr _)]; rfl
        have e1 : wo.cell? ⟨wr.heap.size, 1, none⟩ = some (.int .i64 x1) := by rw [hwo, cell_of_row _ _ _ _ _ _ (heap_alloc_new wr _)]; rfl
        have e2 : wo.cell? ⟨wr.heap.size, 2, none⟩ = some (.int .i64 x2) := by rw [hwo, cell_of_row _ _ _ _ _ _ (heap_alloc_new wr _)]; rfl
        have HE0 := Lib.hid e0
        have HE1 := Lib.hid e1
        have HE2 := Lib.hid e2
        have l0 := Later.cell e0
        clear e0 e1 e2
        have HBO := Lib.hid hbo
        have HWO := Lib.hid hwo
        clear hwo
        by_cases b1 : 1 ≤ x0
        · have b1d : decide (x0 < 1) = false := decide_eq_false (by omega)
          by_cases bh : hasE z k x0
          · have HE : Hid (exB n z = false) := HNK.out (fun h => (HOK.out.1 h).2.1 bh)
            have hca := Lib.hid (fun (q : Later wo) => Calls.later_of (hfr.out q.wd (HBO.out.trans (q.h.mono hso)) true ⟨fun _ => bh, fun _ => rfl⟩))
            clear bh hfr
            go_wp2_with fail
            rw [← HWO.out]
            clear a0 a1 a2
            refine wp_region_later follows_mixed (by kernel_rfl) ?_
            repeat (first | go_big_quiet_step ((go_at_call 47; exact hca.out _)) | quiet_step ((go_at_call 47; exact hca.out _)))
            refine wpQuiet_nil ?_
            intro wq hw'
            have hq : Below wo.heap.size wo wq := by obtain ⟨p, e⟩ := hw'; rw [e]; exact p.h
            clear hw'
            go_wp2_with fail
            go_ret
            exact ⟨(congrArg (fun b => Ending.returned (Value.bool b)) HE.out).symm, HBO.out.trans (hq.mono hso)⟩
          · have HBH := Lib.hid bh
            have hca := Lib.hid (fun (q : Later wo) => Calls.later_of (hfr.out q.wd (HBO.out.trans (q.h.mono hso)) false ⟨fun h => absurd h (by decide), fun h => absurd h HBH.out⟩))
            clear bh hfr
            go_wp2_with fail
            rw [← HWO.out]
            clear a0 a1 a2
            refine wp_region_later follows_mixed (by kernel_rfl) ?_
            repeat (first | go_big_quiet_step ((go_at_call 47; exact hca.out _)) | quiet_step ((go_at_call 47; exact hca.out _)))
            refine wpQuiet_nil ?_
            intro wq hw'
            have hq : Below wo.heap.size wo wq := by obtain ⟨p, e⟩ := hw'; rw [e]; exact p.h
            clear hw' l0
            have hlt : wr.heap.size < wo.heap.size := by rw [HWO.out]; simp
            have d1 := (hq.cell (p := ⟨wr.heap.size, 1, none⟩) hlt).trans HE1.out
            have d2 := (hq.cell (p := ⟨wr.heap.size, 2, none⟩) hlt).trans HE2.out
            have HQ := Lib.hid (HBO.out.trans (hq.mono hso))
            have hsq := HQ.out.size
            clear hq
            by_cases b2 : 0 ≤ x1
            · have b2d : decide (x1 < 0) = false := decide_eq_false (by omega)
              rcases Bool.eq_false_or_eq_true (inB x1 100000 x2) with b3 | b3
              · have HOKT : Hid (okE z k) := HOK.out.2 ⟨b1, HBH.out, b2, (inB_iff.1 b3).1, (inB_iff.1 b3).2⟩
                have B3 := Lib.hid b3
                clear b3 HNK HOK HBH
                go_wp2_with (go_at_call 35; refine (within_at B3.out _).mono ?_; rintro e w' ⟨rfl, rfl⟩)
                go_roundw
                case rel => exact ⟨k + 1, by omega, by congr 1, HQ.out, fun i hi => by
                  by_cases e : i = k
                  · subst e; exact HOKT.out
                  · exact HN.out i (by omega)⟩
                case measure => simp only [intOf]; omega
              · have HE : Hid (exB n z = false) := HNK.out (fun h => by have := (HOK.out.1 h); have := inB_no.1 b3; omega)
                have B3 := Lib.hid b3
                clear b3 HNK HOK HBH
                go_wp2_with (go_at_call 35; refine (within_at B3.out _).mono ?_; rintro e w' ⟨rfl, rfl⟩)
                go_ret
                exact ⟨(congrArg (fun b => Ending.returned (Value.bool b)) HE.out).symm, HQ.out⟩
            · have b2d : decide (x1 < 0) = true := decide_eq_true (by omega)
              have HE : Hid (exB n z = false) := HNK.out (fun h => by have := (HOK.out.1 h); omega)
              clear HNK HOK HBH
              go_wp2_with fail
              go_ret
              exact ⟨(congrArg (fun b => Ending.returned (Value.bool b)) HE.out).symm, HQ.out⟩
        · have b1d : decide (x0 < 1) = true := decide_eq_true (by omega)
          have HE : Hid (exB n z = false) := HNK.out (fun h => by have := (HOK.out.1 h); omega)
          clear hfr
          go_wp2_with fail
          rw [← HWO.out]
          clear a0 a1 a2
          refine wp_region_later follows_mixed (by kernel_rfl) ?_
          repeat (first | go_big_quiet_step (fail) | quiet_step (fail))
          refine wpQuiet_nil ?_
          intro wq hw'
          have hq : Below wo.heap.size wo wq := by obtain ⟨p, e⟩ := hw'; rw [e]; exact p.h
          clear hw'
          go_wp2_with fail
          go_ret
          exact ⟨(congrArg (fun b => Ending.returned (Value.bool b)) HE.out).symm, HBO.out.trans (hq.mono hso)⟩
      · obtain rfl : k = n := by omega
        have HE : Hid (exB k z = true) := exB_yes ⟨h3, HN.out⟩
        go_wp2_with fail
        go_ret
        exact ⟨(congrArg (fun b => Ending.returned (Value.bool b)) HE.out).symm, hbw⟩
  · have HE : Hid (exB n z = false) := exB_no (fun h => h3 h.1)
    go_enter Try.func20, Try.ntmps20
    go_wp2_with fail
    go_ret
    exact ⟨(congrArg (fun b => Ending.returned (Value.bool b)) HE.out).symm, Below.refl _ _⟩

end Go.Proofs.Ytlklggkkkbamhaa
