/- What the program's BeltOk returns. -/
import Derived.Test.YtlklggkkkbamhaaReach
import Derived.Test.YtlklggkkkbamhaaCarries
import Derived.Deep.LoopGhost
import Derived.Deep.RegionWith
import Derived.Deep.CutRange
namespace Go.Proofs.Ytlklggkkkbamhaa
open Go.RowKit

set_option maxRecDepth 100000 in
set_option maxHeartbeats 4000000 in
theorem iBeltOk_any (n : Nat) (hn : n ≤ maxLen) (z : Nat → Int) (p : Option Addr) (c g o : Nat) (L G : Int) (H : Bool) (w : World) (h : FlatAt w 0 w.heap.size p g o (n * 3) (fun j => .int .i64 (z j))) (hc : n ≤ c) :
    Calls Try.prog 13 #[.agg #[.int .i64 L, .int .i64 G, .bool H, .slice p n c]] w fun e w' => e = .returned (.bool (okB L G n z)) ∧ Below w.heap.size w w' := by
  have hn0 := hn
  unfold maxLen at hn
  have c3 := cellsItemI
  have HF := Lib.hid h
  clear h
  by_cases h1 : inB 1 400 L = true
  · by_cases h2 : inB 0 20 G = true
    · by_cases h3 : n ≤ 40
      · obtain ⟨l1, l2⟩ := inB_iff.1 h1
        obtain ⟨g1, g2⟩ := inB_iff.1 h2
        go_enter Try.func13, Try.ntmps13
        go_wp2_with (go_at_call 35; refine (within_any _ _ _ _).mono ?_; rintro e w' ⟨rfl, rfl⟩)
        go_loopw [26] (fun v wr => ∃ k : Nat, k ≤ n ∧ v = .int .i64 (k : Int) ∧ Below w.heap.size w wr ∧ wr.cell? ⟨w.heap.size, 3, none⟩ = some (.slice p n c) ∧ WB wr (w.heap.size + 1) L G H (.slice p n c) ∧ w.heap.size < wr.heap.size ∧ Hid (∀ j, j < k → okIt L G z j)) (fun v _ => n - (intOf v).toNat)
        case atStart => exact ⟨0, by omega, rfl, by repeat (first | exact Below.refl _ _ | refine Below.alloc ?_ (by simp <;> omega) _), by simp, (by have := heap_alloc_new (w.alloc (.cells #[.int .i64 L, .int .i64 G, .bool H, .slice p n c] 24)) (.cells #[.int .i64 L, .int .i64 G, .bool H, .slice p n c] 64); simpa [WB] using this), by simp <;> omega, fun j hj => absurd hj (by omega)⟩
        case round =>
          obtain ⟨k, hk, rfl, hbw, q3, hwb, hsz, HN⟩ := hrel
          by_cases hkn : k < n
          · obtain ⟨rfl, -, hg⟩ := HF.out.1 (by omega)
            obtain ⟨a0, a1, a2⟩ := HF.out.at3 hbw (Nat.le_refl _) k (by omega)
            have hk0 : (0 : Int) ≤ (k : Int) := by omega
            have hkl : (k : Int) < (n : Int) := by omega
            have hkc : (k : Int) ≤ (c : Int) := by omega
            have hkcN : k ≤ c := by omega
            have hnk : ∀ X : okIt L G z k → False, okB L G n z = false := fun X => okB_no (fun h => X (h.2.2.2 k hkn))
            have hfr := Lib.hid (fun W (hW : Below w.heap.size w W) (t : Bool) (ht : t = true ↔ hasB z k (z (k * 3))) => carries_any k (by unfold maxLen; omega) z (some ⟨g, o, none⟩) c g o (z (k * 3)) W (((HF.out.below hW (Nat.le_refl _)).wide (Nat.zero_le _) hW.size).less (by omega)) t ht)
            have hre := Lib.hid (fun W (hW : Below wr.heap.size wr W) => reach_any n hn0 z (some ⟨g, o, none⟩) c g o L G H (w.heap.size + 1) W (hwb.below hW hwb.lt) ((HF.out.below (hbw.trans (hW.mono hbw.size)) (Nat.le_refl _)).wide (Nat.zero_le _) (Nat.le_trans hbw.size hW.size)) k hk ⟨g1, g2⟩ (fun hk1 => by
              have ho := HN.out (k - 1) (by omega)
              have hle := okIt_le g1 (k := k - 1) (fun a ha => HN.out a (by omega))
              obtain ⟨-, -, v1, v2, v3, -⟩ := ho
              omega))
            obtain ⟨x0, hx0⟩ : ∃ x, x = z (k * 3) := ⟨_, rfl⟩
            obtain ⟨x1, hx1⟩ : ∃ x, x = z (k * 3 + 1) := ⟨_, rfl⟩
            obtain ⟨x2, hx2⟩ : ∃ x, x = z (k * 3 + 2) := ⟨_, rfl⟩
            obtain ⟨m, hm⟩ : ∃ m, m = lim L G z k := ⟨_, rfl⟩
            have hok : okIt L G z k ↔ 1 ≤ x0 ∧ ¬ hasB z k x0 ∧ 1 ≤ x2 ∧ x2 ≤ 60 ∧ x2 ≤ x1 ∧ x1 ≤ m := by
              rw [hx0, hx1, hx2, hm]
              constructor
              · rintro ⟨a, b, c⟩; exact ⟨a, fun ⟨j, hj, e⟩ => b j hj e, c⟩
              · rintro ⟨a, b, c⟩; exact ⟨a, fun j hj e => b ⟨j, hj, e⟩, c⟩
            rw [← hx0] at a0 hfr
            rw [← hx1] at a1
            rw [← hx2] at a2
            rw [← hm] at hre
            have HOK := Lib.hid hok
            have HNK := Lib.hid hnk
            clear hx0 hx1 hx2 hm hok hnk
            obtain ⟨wo, hwo⟩ : ∃ wo, wo = wr.alloc (.cells #[.int .i64 x0, .int .i64 x1, .int .i64 x2] 32) := ⟨_, rfl⟩
            have hbo : Below w.heap.size w wo := by rw [hwo]; exact hbw.alloc (by omega) _
            have hbr : Below wr.heap.size wr wo := by rw [hwo]; exact (Below.refl _ _).alloc (Nat.le_refl _) _
            have e0 : wo.cell? ⟨wr.heap.size, 0, none⟩ = some (.int .i64 x0) := by rw [hwo, cell_of_row _ _ _ _ _ _ (heap_alloc_new wr _)]; rfl
            have e1 : wo.cell? ⟨wr.heap.size, 1, none⟩ = some (.int .i64 x1) := by rw [hwo, cell_of_row _ _ _ _ _ _ (heap_alloc_new wr _)]; rfl
            have e2 : wo.cell? ⟨wr.heap.size, 2, none⟩ = some (.int .i64 x2) := by rw [hwo, cell_of_row _ _ _ _ _ _ (heap_alloc_new wr _)]; rfl
            have p3 := (hbr.cell (p := ⟨w.heap.size, 3, none⟩) hsz).trans q3
            have hso : wr.heap.size < wo.heap.size := by rw [hwo]; simp
            have HWO := Lib.hid hwo
            have Q3 := Lib.hid q3
            have hwl := hwb.lt
            have HWB := Lib.hid hwb
            clear hwo hwb q3
            by_cases b1 : 1 ≤ x0
            · have b1d : decide (x0 < 1) = false := decide_eq_false (by omega)
              by_cases bh : hasB z k x0
              · have HE : Hid (okB L G n z = false) := HNK.out (fun h => (HOK.out.1 h).2.1 bh)
                have hca := Lib.hid (fun W hW => hfr.out W hW true ⟨fun _ => bh, fun _ => rfl⟩)
                clear bh
                go_wp2_with fail
                rw [← HWO.out]
                clear a0 a1 a2
                go_region_with (go_at_call 40; refine (hca.out _ (by first | exact hbo | exact hbo.drew | exact below_drewN' hbo _)).mono ?_; rintro e w2 ⟨rfl, hb2⟩)
                all_goals
                  have hw2 : Below w.heap.size w w2 := below_via hb2 (by first | exact hbo | exact hbo.drew | exact below_drewN' hbo _) (by simp; omega)
                  go_wp2_with fail
                  go_ret
                  exact ⟨(congrArg (fun b => Ending.returned (Value.bool b)) HE.out).symm, hw2⟩
              · have hca := Lib.hid (fun W hW => hfr.out W hW false ⟨fun h => absurd h (by decide), fun h => absurd h bh⟩)
                have HBH := Lib.hid bh
                clear bh
                go_upto_region 7 with fail
                rw [← HWO.out]
                clear a0 a1 a2
                go_cut [26, 42] from 26 to 57 (fun s26 s42 wx => s26 = .int .i64 (k : Int) ∧ s42 = .bool false ∧ Below w.heap.size w wx ∧ Below wr.heap.size wr wx ∧ wo.heap.size ≤ wx.heap.size ∧ wx.cell? ⟨wr.heap.size, 1, none⟩ = some (.int .i64 x1) ∧ wx.cell? ⟨wr.heap.size, 2, none⟩ = some (.int .i64 x2) ∧ wx.cell? ⟨w.heap.size, 3, none⟩ = some (.slice (some ⟨g, o, none⟩) n c))
                case first =>
                  go_region_with (go_at_call 40; refine (hca.out _ (by first | exact hbo | exact hbo.drew | exact below_drewN' hbo _)).mono ?_; rintro e w2 ⟨rfl, hb2⟩)
                  all_goals
                    have hw2 : Below w.heap.size w w2 := below_via hb2 (by first | exact hbo | exact hbo.drew | exact below_drewN' hbo _) (by simp; omega)
                    have hr2 : Below wr.heap.size wr w2 := below_via hb2 (by first | exact hbr | exact hbr.drew | exact below_drewN' hbr _) (by simp; omega)
                    have hs2 : wo.heap.size ≤ w2.heap.size := by have := hb2.size; simpa using this
                    have e1 := (hb2.cell (p := ⟨wr.heap.size, 1, none⟩) (by simp; omega)).trans e1
                    have e2 := (hb2.cell (p := ⟨wr.heap.size, 2, none⟩) (by simp; omega)).trans e2
                    have p3 := (hb2.cell (p := ⟨w.heap.size, 3, none⟩) (by simp; omega)).trans p3
                    go_wp2_with fail
                    go_meet
                    exact ⟨rfl, rfl, hw2, hr2, hs2, e1, e2, p3⟩
                case rest =>
                  obtain ⟨rfl, rfl, hw2, hr2, hs2, e1', e2', p3'⟩ := hcut
                  have hs1 : wr.heap.size < wc.heap.size := by omega
                  clear e0 e1 e2 p3 hca hfr
                  have e1 := e1'
                  have e2 := e2'
                  have p3 := p3'
                  clear e1' e2' p3'
                  rcases Bool.eq_false_or_eq_true (inB 1 60 x2) with b2 | b2 <;> have B2 := Lib.hid b2 <;> clear b2
                  rotate_left
                  · have HE : Hid (okB L G n z = false) := HNK.out (fun h => by have := (HOK.out.1 h); have := inB_no.1 B2.out; omega)
                    clear HNK HOK HN HBH hre
                    go_wp2_with fail
                    go_quiet ((go_at_call 35; exact Calls.quiet_of_same (within_eq B2.out _)))
                    go_wp2_with fail
                    go_ret
                    exact ⟨(congrArg (fun b => Ending.returned (Value.bool b)) HE.out).symm, below_drewN' hw2 _⟩
                  · obtain ⟨y1, y2⟩ := inB_iff.1 B2.out
                    by_cases b3 : inB x2 m x1 = true
                    · have B3 := Lib.hid b3
                      have HOKT : Hid (okIt L G z k) := HOK.out.2 ⟨b1, HBH.out, y1, y2, (inB_iff.1 b3).1, (inB_iff.1 b3).2⟩
                      clear b3 HNK HOK HBH
                      go_wp2_with fail
                      go_region_with (first
                        | (go_at_call 35; ((with_reducible refine (within_at B2.out _).mono ?_); rintro e w' ⟨rfl, rfl⟩))
                        | (go_at_call 35; ((with_reducible refine (within_at B3.out _).mono ?_); rintro e w' ⟨rfl, rfl⟩))
                        | (go_at_call 41; refine (hre.out _ (by first | exact hr2 | exact hr2.drew | exact below_drewN' hr2 _)).mono ?_; rintro e w3 ⟨rfl, hb3⟩; have e1' := (hb3.cell (p := ⟨wr.heap.size, 1, none⟩) (by simp; omega)).trans e1; have e2' := (hb3.cell (p := ⟨wr.heap.size, 2, none⟩) (by simp; omega)).trans e2))
                      all_goals
                        have hw3 : Below w.heap.size w w3 := below_via hb3 (by first | exact hw2 | exact hw2.drew | exact below_drewN' hw2 _) (by simp; omega)
                        have p3' := (hb3.cell (p := ⟨w.heap.size, 3, none⟩) (by simp; omega)).trans p3
                        have hs3 : wc.heap.size ≤ w3.heap.size := by have := hb3.size; simpa using this
                        have hr3 : Below wr.heap.size wr w3 := below_via hb3 (by first | exact hr2 | exact hr2.drew | exact below_drewN' hr2 _) (by simp; omega)
                        go_wp2_with fail
                        go_roundw
                        case rel => exact ⟨k + 1, by omega, by congr 1, hw3, p3', HWB.out.below hr3 hwl, by omega, fun i hi => by
                          by_cases e : i = k
                          · subst e; exact HOKT.out
                          · exact HN.out i (by omega)⟩
                        case measure => simp only [intOf]; omega
                    · have B3 : Hid (inB x2 m x1 = false) := Lib.hid (Bool.eq_false_iff.2 b3)
                      have HE : Hid (okB L G n z = false) := HNK.out (fun h => by have := (HOK.out.1 h); have := inB_no.1 B3.out; omega)
                      clear b3 HNK HOK HN HBH
                      go_wp2_with fail
                      go_region_with (first
                        | (go_at_call 35; ((with_reducible refine (within_at B2.out _).mono ?_); rintro e w' ⟨rfl, rfl⟩))
                        | (go_at_call 35; ((with_reducible refine (within_at B3.out _).mono ?_); rintro e w' ⟨rfl, rfl⟩))
                        | (go_at_call 41; refine (hre.out _ (by first | exact hr2 | exact hr2.drew | exact below_drewN' hr2 _)).mono ?_; rintro e w3 ⟨rfl, hb3⟩; have e1' := (hb3.cell (p := ⟨wr.heap.size, 1, none⟩) (by simp; omega)).trans e1; have e2' := (hb3.cell (p := ⟨wr.heap.size, 2, none⟩) (by simp; omega)).trans e2))
                      all_goals
                        have hw3 : Below w.heap.size w w3 := below_via hb3 (by first | exact hw2 | exact hw2.drew | exact below_drewN' hw2 _) (by simp; omega)
                        go_wp2_with fail
                        go_ret
                        exact ⟨(congrArg (fun b => Ending.returned (Value.bool b)) HE.out).symm, hw3⟩
            · have b1d : decide (x0 < 1) = true := decide_eq_true (by omega)
              have HE : Hid (okB L G n z = false) := HNK.out (fun h => by have := (HOK.out.1 h); omega)
              go_wp2_with fail
              rw [← HWO.out]
              clear a0 a1 a2
              go_quiet (fail)
              go_wp2_with fail
              go_ret
              exact ⟨(congrArg (fun b => Ending.returned (Value.bool b)) HE.out).symm, below_drewN' hbo _⟩
          · obtain rfl : k = n := by omega
            have HE : Hid (okB L G k z = true) := okB_yes ⟨⟨l1, l2⟩, ⟨g1, g2⟩, h3, HN.out⟩
            go_wp2_with fail
            go_ret
            exact ⟨(congrArg (fun b => Ending.returned (Value.bool b)) HE.out).symm, hbw⟩
      · have HE : Hid (okB L G n z = false) := okB_no (fun h => h3 h.2.2.1)
        go_enter Try.func13, Try.ntmps13
        go_wp2_with (go_at_call 35; refine (within_any _ _ _ _).mono ?_; rintro e w' ⟨rfl, rfl⟩)
        go_ret
        exact ⟨(congrArg (fun b => Ending.returned (Value.bool b)) HE.out).symm, (Below.refl _ _).alloc (Nat.le_refl _) _⟩
    · have HE : Hid (okB L G n z = false) := okB_no (fun h => h2 (inB_iff.2 h.2.1))
      have h2' : inB 0 20 G = false := by simpa using h2
      clear h2
      go_enter Try.func13, Try.ntmps13
      go_wp2_with (go_at_call 35; refine (within_any _ _ _ _).mono ?_; rintro e w' ⟨rfl, rfl⟩)
      go_ret
      exact ⟨(congrArg (fun b => Ending.returned (Value.bool b)) HE.out).symm, (Below.refl _ _).alloc (Nat.le_refl _) _⟩
  · have HE : Hid (okB L G n z = false) := okB_no (fun h => h1 (inB_iff.2 h.1))
    have h1' : inB 1 400 L = false := by simpa using h1
    clear h1
    go_enter Try.func13, Try.ntmps13
    go_wp2_with (go_at_call 35; refine (within_any _ _ _ _).mono ?_; rintro e w' ⟨rfl, rfl⟩)
    go_ret
    exact ⟨(congrArg (fun b => Ending.returned (Value.bool b)) HE.out).symm, (Below.refl _ _).alloc (Nat.le_refl _) _⟩

end Go.Proofs.Ytlklggkkkbamhaa
