/- What the program's SightsOk returns. -/
import Derived.Test.YtopkdkehkdhmgaaHasS
import Derived.Test.YtopkdkehkdhmgaaIn
import Derived.Test.YtopkdkehkdhmgaaLater
import Derived.Deep.LoopGhost
namespace Go.Proofs.Ytopkdkehkdhmgaa
open Go.RowKit
set_option linter.unusedVariables false

set_option maxRecDepth 100000 in
set_option maxHeartbeats 4000000 in
theorem iSightsOk_any (n : Nat) (hn : n ≤ maxLen) (s : Nat → Int) (p : Option Addr) (c g o : Nat) (w : World) (h : FlatAt w 0 w.heap.size p g o (n * 2) (fun j => .int .i64 (s j))) (hc : n ≤ c) :
    Calls Try.prog 32 #[.slice p n c] w fun e w' => e = .returned (.bool (siB n s)) ∧ Below w.heap.size w w' := by
  unfold maxLen at hn
  have c3 := cellsnamed
  have HF := Lib.hid h
  clear h
  by_cases h3 : n ≤ 6
  · go_enter Try.func32, Try.ntmps32
    go_wp2_with fail
    go_loopw [3, 11] (fun ea v wr => ∃ k : Nat, k ≤ n ∧ v = .int .i64 (k : Int) ∧ ea = .int .i64 (prT s k) ∧ Below w.heap.size w wr ∧ Hid (∀ j, j < k → okS s j)) (fun _ v _ => n - (intOf v).toNat)
    case atStart => exact ⟨0, by omega, rfl, rfl, Below.refl _ _, fun j hj => absurd hj (by omega)⟩
    case round =>
      obtain ⟨k, hk, rfl, rfl, hbw, HN⟩ := hrel
      by_cases hkn : k < n
      · obtain ⟨rfl, -, hg⟩ := HF.out.1 (by omega)
        obtain ⟨a0, a1⟩ := HF.out.at2 hbw (Nat.le_refl _) k (by omega)
        have hk0 : (0 : Int) ≤ (k : Int) := by omega
        have hkl : (k : Int) < (n : Int) := by omega
        have hkc : (k : Int) ≤ (c : Int) := by omega
        have hkcN : k ≤ c := by omega
        have hnk : ∀ X : okS s k → False, siB n s = false := fun X => siB_no (fun h => X (h.2 k hkn))
        have hfr := Lib.hid (fun W (hW : Below w.heap.size w W) (t : Bool) (ht : t = true ↔ hasS s k (s (k * 2 + 1))) => named_any k (by unfold maxLen; omega) s (some ⟨g, o, none⟩) c g o (s (k * 2 + 1)) W (((HF.out.below hW (Nat.le_refl _)).wide (Nat.zero_le _) hW.size).less (by omega)) t ht)
        have hp0 := prT_lo k HN.out
        obtain ⟨pt, hpt⟩ : ∃ x, x = prT s k := ⟨_, rfl⟩
        obtain ⟨x0, hx0⟩ : ∃ x, x = s (k * 2) := ⟨_, rfl⟩
        obtain ⟨x1, hx1⟩ : ∃ x, x = s (k * 2 + 1) := ⟨_, rfl⟩
        have hok : okS s k ↔ pt ≤ x0 ∧ x0 ≤ 100000 ∧ 0 ≤ x1 ∧ (x1 = 0 ∨ ¬ hasS s k x1) := by rw [hpt, hx0, hx1]; exact Iff.rfl
        have hnx : prT s (k + 1) = x0 := by rw [hx0]; rfl
        rw [← hpt] at hp0 ⊢
        rw [← hx0] at a0
        rw [← hx1] at a1 hfr
        have HNX := Lib.hid hnx
        have HOK := Lib.hid hok
        have HNK := Lib.hid hnk
        clear hx0 hx1 hpt hok hnk hnx
        obtain ⟨wo, hwo⟩ : ∃ wo, wo = wr.alloc (.cells #[.int .i64 x0, .int .i64 x1] 30) := ⟨_, rfl⟩
        have hbo : Below w.heap.size w wo := by rw [hwo]; exact hbw.alloc hbw.size _
        have hso : w.heap.size ≤ wo.heap.size := hbo.size
        have e0 : wo.cell? ⟨wr.heap.size, 0, none⟩ = some (.int .i64 x0) := by rw [hwo, cell_of_row _ _ _ _ _ _ (heap_alloc_new wr _)]; rfl
        have e1 : wo.cell? ⟨wr.heap.size, 1, none⟩ = some (.int .i64 x1) := by rw [hwo, cell_of_row _ _ _ _ _ _ (heap_alloc_new wr _)]; rfl
        have hlt : wr.heap.size < wo.heap.size := by rw [hwo]; simp
        have HE0 := Lib.hid e0
        have HE1 := Lib.hid e1
        have HBO := Lib.hid hbo
        have HWO := Lib.hid hwo
        clear hwo e0 e1 hbo
        rcases Bool.eq_false_or_eq_true (inB pt 100000 x0) with b1 | b1
        rotate_left
        · have HE : Hid (siB n s = false) := HNK.out (fun h => by have := (HOK.out.1 h); have := inB_no.1 b1; omega)
          have B1 := Lib.hid b1
          clear b1 HNK HOK
          go_wp2_with (go_at_call 60; refine (within_at B1.out _).mono ?_; rintro e w' ⟨rfl, rfl⟩)
          go_ret
          exact ⟨(congrArg (fun b => Ending.returned (Value.bool b)) HE.out).symm, hbw.alloc hbw.size _⟩
        · have B1 := Lib.hid b1
          obtain ⟨y0, y1⟩ := inB_iff.1 b1
          clear b1
          by_cases b2 : x1 < 0
          · have b2d : decide (x1 < 0) = true := decide_eq_true b2
            have HE : Hid (siB n s = false) := HNK.out (fun h => by have := (HOK.out.1 h); omega)
            go_wp2_with (go_at_call 60; refine (within_at B1.out _).mono ?_; rintro e w' ⟨rfl, rfl⟩)
            rw [← HWO.out]
            have l1 := Later.cell HE1.out
            clear a0 a1
            refine wp_region_later follows_mixed (by kernel_rfl) ?_
            repeat (first | go_big_quiet_step (fail) | quiet_step (fail))
            refine wpQuiet_nil ?_
            intro wq hw'
            have hq : Below wo.heap.size wo wq := by obtain ⟨p, e⟩ := hw'; rw [e]; exact p.h
            clear hw'
            go_wp2_with fail
            go_ret
            exact ⟨(congrArg (fun b => Ending.returned (Value.bool b)) HE.out).symm, HBO.out.trans (hq.mono hso)⟩
          · have b2d : decide (x1 < 0) = false := decide_eq_false b2
            by_cases b3 : x1 = 0
            · have HOKT : Hid (okS s k) := HOK.out.2 ⟨y0, y1, by omega, .inl b3⟩
              subst b3
              go_wp2_with (go_at_call 60; refine (within_at B1.out _).mono ?_; rintro e w' ⟨rfl, rfl⟩)
              rw [← HWO.out]
              have l1 := Later.cell HE1.out
              clear a0 a1
              refine wp_region_later follows_mixed (by kernel_rfl) ?_
              repeat (first | go_big_quiet_step (fail) | quiet_step (fail))
              refine wpQuiet_nil ?_
              intro wq hw'
              have hq : Below wo.heap.size wo wq := by obtain ⟨p, e⟩ := hw'; rw [e]; exact p.h
              clear hw' l1
              have d0 := (hq.cell (p := ⟨wr.heap.size, 0, none⟩) hlt).trans HE0.out
              have HQ := Lib.hid (HBO.out.trans (hq.mono hso))
              clear hq
              go_wp2_with fail
              go_roundw
              case rel => exact ⟨k + 1, by omega, by congr 1, by rw [HNX.out], HQ.out, fun i hi => by
                by_cases e : i = k
                · subst e; exact HOKT.out
                · exact HN.out i (by omega)⟩
              case measure => simp only [intOf]; omega
            · have b3d : (x1 != 0) = true := by simpa using b3
              by_cases bh : hasS s k x1
              · have HE : Hid (siB n s = false) := HNK.out (fun h => by have := (HOK.out.1 h).2.2.2; rcases this with h | h; exact b3 h; exact h bh)
                have hca := Lib.hid (fun (q : Later wo) => Calls.later_of (hfr.out q.wd (HBO.out.trans (q.h.mono hso)) true ⟨fun _ => bh, fun _ => rfl⟩))
                clear bh hfr
                go_wp2_with (go_at_call 60; refine (within_at B1.out _).mono ?_; rintro e w' ⟨rfl, rfl⟩)
                rw [← HWO.out]
                have l1 := Later.cell HE1.out
                clear a0 a1
                refine wp_region_later follows_mixed (by kernel_rfl) ?_
                repeat (first | go_big_quiet_step ((go_at_call 68; exact hca.out _)) | quiet_step ((go_at_call 68; exact hca.out _)))
                refine wpQuiet_nil ?_
                intro wq hw'
                have hq : Below wo.heap.size wo wq := by obtain ⟨p, e⟩ := hw'; rw [e]; exact p.h
                clear hw'
                go_wp2_with fail
                go_ret
                exact ⟨(congrArg (fun b => Ending.returned (Value.bool b)) HE.out).symm, HBO.out.trans (hq.mono hso)⟩
              · have HBH := Lib.hid bh
                have HOKT : Hid (okS s k) := HOK.out.2 ⟨y0, y1, by omega, .inr bh⟩
                have hca := Lib.hid (fun (q : Later wo) => Calls.later_of (hfr.out q.wd (HBO.out.trans (q.h.mono hso)) false ⟨fun h => absurd h (by decide), fun h => absurd h HBH.out⟩))
                clear bh hfr
                go_wp2_with (go_at_call 60; refine (within_at B1.out _).mono ?_; rintro e w' ⟨rfl, rfl⟩)
                rw [← HWO.out]
                have l1 := Later.cell HE1.out
                clear a0 a1
                refine wp_region_later follows_mixed (by kernel_rfl) ?_
                repeat (first | go_big_quiet_step ((go_at_call 68; exact hca.out _)) | quiet_step ((go_at_call 68; exact hca.out _)))
                refine wpQuiet_nil ?_
                intro wq hw'
                have hq : Below wo.heap.size wo wq := by obtain ⟨p, e⟩ := hw'; rw [e]; exact p.h
                clear hw' l1
                have d0 := (hq.cell (p := ⟨wr.heap.size, 0, none⟩) hlt).trans HE0.out
                have HQ := Lib.hid (HBO.out.trans (hq.mono hso))
                clear hq
                go_wp2_with fail
                go_roundw
                case rel => exact ⟨k + 1, by omega, by congr 1, by rw [HNX.out], HQ.out, fun i hi => by
                  by_cases e : i = k
                  · subst e; exact HOKT.out
                  · exact HN.out i (by omega)⟩
                case measure => simp only [intOf]; omega
      · obtain rfl : k = n := by omega
        have HE : Hid (siB k s = true) := siB_yes ⟨h3, HN.out⟩
        go_wp2_with fail
        go_ret
        exact ⟨(congrArg (fun b => Ending.returned (Value.bool b)) HE.out).symm, hbw⟩
  · have HE : Hid (siB n s = false) := siB_no (fun h => h3 h.1)
    go_enter Try.func32, Try.ntmps32
    go_wp2_with fail
    go_ret
    exact ⟨(congrArg (fun b => Ending.returned (Value.bool b)) HE.out).symm, Below.refl _ _⟩

end Go.Proofs.Ytopkdkehkdhmgaa
