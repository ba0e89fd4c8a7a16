/- What the model's BeltOk returns. -/
import Derived.Test.YtlklggkkkbamhaaFlat
import Derived.Test.YtlklggkkkbamhaaIn
import Derived.Test.YtlklggkkkbamhaaBeltPlain
import Derived.Test.YtlklggkkkbamhaaChecked
import Derived.Deep.LoopGhost
import Derived.BigQuiet
import Derived.Deep.QuietTactic
import Derived.Deep.RegionWith
import Derived.OwnWalk
import Derived.IntWalk
namespace Go.Proofs.Ytlklggkkkbamhaa
open Go.RowKit

theorem cellsItemS : Try.prog.cellsOf 32 = 3 := by kernel_rfl

set_option maxRecDepth 100000 in
set_option maxHeartbeats 4000000 in
theorem sBeltOk_any (n : Nat) (hn : n ≤ maxLen) (z : Nat → Int) (p : Option Addr) (c g o : Nat) (L G : Int) (H : Bool) (w : World) (h : FlatAt w 0 w.heap.size p g o (n * 3) (fun j => .int .i64 (z j))) :
    Calls Try.prog 8 #[.agg #[.int .i64 L, .int .i64 G, .bool H, .slice p n c]] w fun e w' => e = .returned (.bool (okB L G n z)) ∧ Below w.heap.size w w' := by
  unfold maxLen at hn
  have c3 := cellsItemS
  have HF := Lib.hid h
  clear h
  by_cases h1 : inB 1 400 L = true
  · by_cases h2 : inB 0 20 G = true
    · by_cases h3 : n ≤ 40
      · obtain ⟨l1, l2⟩ := inB_iff.1 h1
        obtain ⟨g1, g2⟩ := inB_iff.1 h2
        go_enter Try.func8, Try.ntmps8
        go_wp2_with (go_at_call 33; refine (specIn_any _ _ _ _).mono ?_; rintro e w' ⟨rfl, rfl⟩)
        go_loopw [3] (fun v wr => ∃ k : Nat, k ≤ n ∧ v = .int .i64 (k : Int) ∧ Below w.heap.size w wr ∧ wr.cell? ⟨w.heap.size, 0, none⟩ = some (.int .i64 L) ∧ wr.cell? ⟨w.heap.size, 1, none⟩ = some (.int .i64 G) ∧ wr.cell? ⟨w.heap.size, 3, none⟩ = some (.slice p n c) ∧ w.heap.size < wr.heap.size ∧ Hid (∀ j, j < k → okIt L G z j)) (fun v _ => n - (intOf v).toNat)
        case atStart => exact ⟨0, by omega, rfl, by repeat (first | exact Below.refl _ _ | refine Below.alloc ?_ (by simp <;> omega) _), by simp, by simp, by simp, by simp, fun j hj => absurd hj (by omega)⟩
        case round =>
          obtain ⟨k, hk, rfl, hbw, q0, q1, q3, hsz, HN⟩ := hrel
          obtain ⟨wq, rfl⟩ : ∃ wq, wq = wr := ⟨_, rfl⟩
          by_cases hkn : k < n
          · obtain ⟨rfl, -, hg⟩ := HF.out.1 (by omega)
            obtain ⟨a0, a1, a2⟩ := HF.out.at3 hbw (Nat.le_refl _) k (by omega)
            have hk0 : (0 : Int) ≤ (k : Int) := by omega
            have hkl : (k : Int) < (n : Int) := by omega
            have hnk : ∀ X : okIt L G z k → False, okB L G n z = false := fun X => okB_no (fun h => X (h.2.2.2 k hkn))
            obtain ⟨x0, hx0⟩ : ∃ x, x = z (k * 3) := ⟨_, rfl⟩
            obtain ⟨x1, hx1⟩ : ∃ x, x = z (k * 3 + 1) := ⟨_, rfl⟩
            obtain ⟨x2, hx2⟩ : ∃ x, x = z (k * 3 + 2) := ⟨_, rfl⟩
            have hok : okIt L G z k ↔ 1 ≤ x0 ∧ (∀ j, j < k → z (j * 3) ≠ x0) ∧ 1 ≤ x2 ∧ x2 ≤ 60 ∧ x2 ≤ x1 ∧ x1 ≤ lim L G z k := by rw [hx0, hx1, hx2]; exact Iff.rfl
            rw [← hx0] at a0
            rw [← hx1] at a1
            rw [← hx2] at a2
            have HOK := Lib.hid hok
            have HNK := Lib.hid hnk
            have hll : lim L G z k ≤ L := lim_le g1 k HN.out
            clear hx0 hx1 hx2 hok hnk
            by_cases b1 : 1 ≤ x0
            · cases b2 : inB 1 60 x2
              · have HE : Hid (okB L G n z = false) := HNK.out (fun h => by have := (HOK.out.1 h); have := inB_no.1 b2; omega)
                go_wp2_with (go_at_call 33; refine (specIn_any _ _ _ _).mono ?_; rintro e w' ⟨rfl, rfl⟩)
                go_ret
                exact ⟨(congrArg (fun b => Ending.returned (Value.bool b)) HE.out).symm, (hbw.alloc (by omega) _)⟩
              · cases b3 : inB x2 L x1
                · have HE : Hid (okB L G n z = false) := HNK.out (fun h => by have := (HOK.out.1 h); have := inB_no.1 b3; omega)
                  go_wp2_with (go_at_call 33; refine (specIn_any _ _ _ _).mono ?_; rintro e w' ⟨rfl, rfl⟩)
                  go_ret
                  exact ⟨(congrArg (fun b => Ending.returned (Value.bool b)) HE.out).symm, (hbw.alloc (by omega) _)⟩
                · obtain ⟨y1, y2⟩ := inB_iff.1 b2
                  obtain ⟨y3, y4⟩ := inB_iff.1 b3
                  go_wp2_with (go_at_call 33; refine (specIn_any _ _ _ _).mono ?_; rintro e w' ⟨rfl, rfl⟩)
                  obtain ⟨wo, hwo⟩ : ∃ wo, wo = wq.alloc (.cells #[.int .i64 x0, .int .i64 x1, .int .i64 x2] 32) := ⟨_, rfl⟩
                  have hbo : Below w.heap.size w wo := by rw [hwo]; exact hbw.alloc (by omega) _
                  have hso : wo.heap.size = wq.heap.size + 1 := by rw [hwo]; simp
                  have hbr : Below wq.heap.size wq wo := by rw [hwo]; exact (Below.refl _ _).alloc (Nat.le_refl _) _
                  have e0 : wo.cell? ⟨wq.heap.size, 0, none⟩ = some (.int .i64 x0) := by rw [hwo, cell_of_row _ _ _ _ _ _ (heap_alloc_new wq _)]; rfl
                  have e1 : wo.cell? ⟨wq.heap.size, 1, none⟩ = some (.int .i64 x1) := by rw [hwo, cell_of_row _ _ _ _ _ _ (heap_alloc_new wq _)]; rfl
                  have q0 := (hbr.cell (p := ⟨w.heap.size, 0, none⟩) hsz).trans q0
                  have q1 := (hbr.cell (p := ⟨w.heap.size, 1, none⟩) hsz).trans q1
                  have q3 := (hbr.cell (p := ⟨w.heap.size, 3, none⟩) hsz).trans q3
                  rw [← hwo]
                  have B0 := Lib.hid hbo
                  have E0 := Lib.hid e0
                  have E1 := Lib.hid e1
                  have Q0 := Lib.hid q0
                  have Q1 := Lib.hid q1
                  have Q3 := Lib.hid q3
                  have HS := Lib.hid hso
                  clear hwo a0 a1 a2 q0 q1 q3 e0 e1 hbo hbr hso
                  go_loopw [5] (fun v wi => ∃ j : Nat, j ≤ k ∧ v = .int .i64 (j : Int) ∧ Below wo.heap.size wo wi ∧ Hid (∀ i, i < j → z (i * 3) ≠ x0)) (fun v _ => k - (intOf v).toNat)
                  case atStart => exact ⟨0, by omega, rfl, Below.refl _ _, fun i hi => absurd hi (by omega)⟩
                  case round =>
                    obtain ⟨j, hj, rfl, hbi, HJ⟩ := hrel
                    have hs1 := HS.out
                    have r0 := (hbi.cell (p := ⟨w.heap.size, 0, none⟩) (by show w.heap.size < _; omega)).trans Q0.out
                    have r1 := (hbi.cell (p := ⟨w.heap.size, 1, none⟩) (by show w.heap.size < _; omega)).trans Q1.out
                    have r3 := (hbi.cell (p := ⟨w.heap.size, 3, none⟩) (by show w.heap.size < _; omega)).trans Q3.out
                    have s0 := (hbi.cell (p := ⟨wq.heap.size, 0, none⟩) (by show wq.heap.size < _; omega)).trans E0.out
                    have s1 := (hbi.cell (p := ⟨wq.heap.size, 1, none⟩) (by show wq.heap.size < _; omega)).trans E1.out
                    have hbi2 : Below w.heap.size w wr := B0.out.trans (hbi.mono (by omega))
                    have hsi := hbi.size
                    clear hs1
                    by_cases hjk : j < k
                    · obtain ⟨c0, c1, c2⟩ := HF.out.at3 hbi2 (Nat.le_refl _) j (by omega)
                      have hj0 : (0 : Int) ≤ (j : Int) := by omega
                      have hjn : (j : Int) < (n : Int) := by omega
                      have hjk' : (j : Int) < (k : Int) := by omega
                      by_cases hx : z (j * 3) = x0
                      · have HE : Hid (okB L G n z = false) := HNK.out (fun h => (HOK.out.1 h).2.1 j hjk hx)
                        rw [hx] at c0
                        clear hx
                        go_wp2_with fail
                        go_quiet (fail)
                        go_wp2_with fail
                        go_ret
                        exact ⟨(congrArg (fun b => Ending.returned (Value.bool b)) HE.out).symm, below_drewN' hbi2 _⟩
                      · have HX := Lib.hid hx
                        obtain ⟨y0, hy0⟩ : ∃ y, y = z (j * 3) := ⟨_, rfl⟩
                        have hne : (y0 == x0) = false := by rw [hy0]; simpa using hx
                        rw [← hy0] at c0
                        clear hx hy0
                        go_wp2_with fail
                        go_quiet (fail)
                        go_wp2_with fail
                        go_roundw
                        case rel => exact ⟨j + 1, by omega, by congr 1, below_drewN' hbi _, fun i hi => by
                          by_cases e : i = j
                          · subst e; exact HX.out
                          · exact HJ.out i (by omega)⟩
                        case measure => simp only [intOf]; omega
                    · obtain rfl : j = k := by omega
                      clear hjk
                      by_cases hj0 : j = 0
                      · subst hj0
                        have HOKT : Hid (okIt L G z 0) := HOK.out.2 ⟨b1, HJ.out, y1, y2, y3, y4⟩
                        go_wp2_with fail
                        go_quiet (fail)
                        go_wp2_with fail
                        go_roundw
                        case rel => exact ⟨1, by omega, by congr 1, below_drewN' hbi2 _, r0, r1, r3, (show w.heap.size < wr.heap.size by have := HS.out; omega), fun i hi => by obtain rfl : i = 0 := (by omega); exact HOKT.out⟩
                        case measure => simp only [intOf]; omega
                      · obtain ⟨i, rfl⟩ : ∃ i, j = i + 1 := ⟨j - 1, by omega⟩
                        have ho := HN.out i (by omega)
                        have hle := okIt_le g1 (k := i) (fun a ha => HN.out a (by omega))
                        obtain ⟨-, -, v1, v2, v3, -⟩ := ho
                        obtain ⟨d0, d1, d2⟩ := HF.out.at3 hbi2 (Nat.le_refl _) i (by omega)
                        have hlm : lim L G z (i + 1) = z (i * 3 + 1) - z (i * 3 + 2) - G := rfl
                        obtain ⟨t1, ht1⟩ : ∃ y, y = z (i * 3 + 1) := ⟨_, rfl⟩
                        obtain ⟨t2, ht2⟩ : ∃ y, y = z (i * 3 + 2) := ⟨_, rfl⟩
                        rw [← ht1] at d1 v3 hle hlm
                        rw [← ht2] at d2 v1 v2 v3 hlm
                        have hk1 : ((i + 1 : Nat) : Int) - 1 = (i : Int) := by omega
                        have hi0 : (0 : Int) ≤ (i : Int) := by omega
                        have hin : (i : Int) < (n : Int) := by omega
                        have hgt : (0 : Int) < ((i + 1 : Nat) : Int) := by omega
                        have hgt' : decide ((0 : Int) < ((i + 1 : Nat) : Int)) = true := decide_eq_true hgt
                        have hgt2 : decide ((0 : Int) < (i : Int) + 1) = true := decide_eq_true (by omega)
                        by_cases hx : x1 ≤ t1 - t2 - G
                        · have HOKT : Hid (okIt L G z (i + 1)) := HOK.out.2 ⟨b1, HJ.out, y1, y2, y3, by rw [hlm]; exact hx⟩
                          have hd : decide (t1 - t2 - G < x1) = false := decide_eq_false (by omega)
                          clear ht1 ht2 hlm hll
                          go_wp2_with fail
                          go_quiet (fail)
                          go_wp2_with fail
                          go_roundw
                          case rel => exact ⟨i + 1 + 1, by omega, by congr 1, below_drewN' hbi2 _, r0, r1, r3, (show w.heap.size < wr.heap.size by have := HS.out; omega), fun a ha => by
                            by_cases e : a = i + 1
                            · subst e; exact HOKT.out
                            · exact HN.out a (by omega)⟩
                          case measure => simp only [intOf]; omega
                        · have HE : Hid (okB L G n z = false) := HNK.out (fun h => by have := (HOK.out.1 h).2.2.2.2.2; rw [hlm] at this; omega)
                          have hd : decide (t1 - t2 - G < x1) = true := decide_eq_true (by omega)
                          clear ht1 ht2 hlm hll
                          go_wp2_with fail
                          go_quiet (fail)
                          go_wp2_with fail
                          go_ret
                          exact ⟨(congrArg (fun b => Ending.returned (Value.bool b)) HE.out).symm, below_drewN' hbi2 _⟩
            · have HE : Hid (okB L G n z = false) := HNK.out (fun h => by have := (HOK.out.1 h); omega)
              go_wp2_with (go_at_call 33; refine (specIn_any _ _ _ _).mono ?_; rintro e w' ⟨rfl, rfl⟩)
              go_ret
              exact ⟨(congrArg (fun b => Ending.returned (Value.bool b)) HE.out).symm, (hbw.alloc (by omega) _)⟩
          · obtain rfl : k = n := by omega
            have HE : Hid (okB L G k z = true) := okB_yes ⟨⟨l1, l2⟩, ⟨g1, g2⟩, h3, HN.out⟩
            go_wp2_with fail
            go_ret
            exact ⟨(congrArg (fun b => Ending.returned (Value.bool b)) HE.out).symm, hbw⟩
      · have HE : Hid (okB L G n z = false) := okB_no (fun h => h3 h.2.2.1)
        go_enter Try.func8, Try.ntmps8
        go_wp2_with (go_at_call 33; refine (specIn_any _ _ _ _).mono ?_; rintro e w' ⟨rfl, rfl⟩)
        go_ret
        exact ⟨(congrArg (fun b => Ending.returned (Value.bool b)) HE.out).symm, (Below.refl _ _).alloc (Nat.le_refl _) _⟩
    · have HE : Hid (okB L G n z = false) := okB_no (fun h => h2 (inB_iff.2 h.2.1))
      have h2' : inB 0 20 G = false := by simpa using h2
      clear h2
      go_enter Try.func8, Try.ntmps8
      go_wp2_with (go_at_call 33; refine (specIn_any _ _ _ _).mono ?_; rintro e w' ⟨rfl, rfl⟩)
      go_ret
      exact ⟨(congrArg (fun b => Ending.returned (Value.bool b)) HE.out).symm, (Below.refl _ _).alloc (Nat.le_refl _) _⟩
  · have HE : Hid (okB L G n z = false) := okB_no (fun h => h1 (inB_iff.2 h.1))
    have h1' : inB 1 400 L = false := by simpa using h1
    clear h1
    go_enter Try.func8, Try.ntmps8
    go_wp2_with (go_at_call 33; refine (specIn_any _ _ _ _).mono ?_; rintro e w' ⟨rfl, rfl⟩)
    go_ret
    exact ⟨(congrArg (fun b => Ending.returned (Value.bool b)) HE.out).symm, (Below.refl _ _).alloc (Nat.le_refl _) _⟩

end Go.Proofs.Ytlklggkkkbamhaa
