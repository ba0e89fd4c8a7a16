/- The program's comparisons of kept bags and of openings. -/
import Derived.Test.YtokhkcebdbopcaaFlat
import Derived.Test.YtokhkcebdbopcaaShelf
import Derived.Test.YtokhkcebdbopcaaSmall
import Derived.Test.YtokhkcebdbopcaaChecked
import Derived.Deep.RegionWith
import Derived.BigQuiet
import Derived.StillTailTactics
namespace Go.Proofs.Ytokhkcebdbopcaa
open Go.RowKit Go.Shelf
set_option linter.unusedVariables false

set_option maxHeartbeats 1000000 in
theorem or_any (a b : Int) (g c : Nat) (w : World) (h0 : w.cell? ⟨g, 0, none⟩ = some (.int .i64 a)) (h1 : w.cell? ⟨g, 1, none⟩ = some (.int .i64 b)) :
    Calls Try.prog 88 #[.slice (some ⟨g, 0, none⟩) 2 c] w fun e w' => e = .returned (.int .i64 (if a = 0 then b else a)) ∧ w = w' := by
  by_cases ha : a = 0
  · subst ha
    rw [if_pos rfl]
    by_cases hb : b = 0
    · subst hb
      go_enter Try.func88, Try.ntmps88
      go_wp2_with fail
      go_loop [5, 8] (fun _ v => ∃ k : Nat, k ≤ 2 ∧ v = .int .i64 (k : Int)) (fun _ v => 2 - (intOf v).toNat)
      case atStart => exact ⟨0, by omega, rfl⟩
      case round =>
        obtain ⟨k, hk, rfl⟩ := hrel
        rcases (show k = 0 ∨ k = 1 ∨ k = 2 by omega) with rfl | rfl | rfl
        · go_wp2_with fail
          go_round
          case rel => exact ⟨1, by omega, rfl⟩
          case measure => simp [intOf]
        · go_wp2_with fail
          go_round
          case rel => exact ⟨2, by omega, rfl⟩
          case measure => simp [intOf]
        · go_wp2_with fail
          go_ret
          exact ⟨rfl, rfl⟩
    · have hbb : (b != 0) = true := by simpa using hb
      go_enter Try.func88, Try.ntmps88
      go_wp2_with fail
      go_loop [5, 8] (fun _ v => ∃ k : Nat, k ≤ 1 ∧ v = .int .i64 (k : Int)) (fun _ v => 2 - (intOf v).toNat)
      case atStart => exact ⟨0, by omega, rfl⟩
      case round =>
        obtain ⟨k, hk, rfl⟩ := hrel
        rcases (show k = 0 ∨ k = 1 by omega) with rfl | rfl
        · go_wp2_with fail
          go_round
          case rel => exact ⟨1, by omega, rfl⟩
          case measure => simp [intOf]
        · go_wp2_with fail
          go_ret
          exact ⟨rfl, rfl⟩
  · rw [if_neg ha]
    have haa : (a != 0) = true := by simpa using ha
    go_enter Try.func88, Try.ntmps88
    go_wp2_with fail
    go_loop [5, 8] (fun _ v => v = .int .i64 0) (fun _ v => 2 - (intOf v).toNat)
    case atStart => rfl
    case round =>
      obtain rfl := hrel
      go_wp2_with fail
      go_ret
      exact ⟨rfl, rfl⟩

theorem cmpI (x y : Int) : (x < y ∧ Lib.compareInt x y = -1) ∨ (y < x ∧ Lib.compareInt x y = 1) ∨ (x = y ∧ Lib.compareInt x y = 0) := by
  unfold Lib.compareInt
  by_cases h1 : x < y
  · simp [h1]
  · by_cases h2 : y < x
    · simp [h1, h2]
    · have : x = y := by omega
      simp [h1, h2, this]
theorem cmpLt (a b c d : Int) : ((if Lib.compareInt a b = 0 then Lib.compareInt c d else Lib.compareInt a b) < 0) ↔ (a < b ∨ (a = b ∧ c < d)) := by
  rcases cmpI a b with ⟨h1, h2⟩ | ⟨h1, h2⟩ | ⟨h1, h2⟩ <;> rcases cmpI c d with ⟨h3, h4⟩ | ⟨h3, h4⟩ | ⟨h3, h4⟩ <;> rw [h2] <;> simp [h4] <;> omega

set_option maxHeartbeats 4000000 in
set_option maxRecDepth 100000 in
theorem cmpKept_any (a0 a1 b0 b1 : Int) (W : World) :
    Calls Try.prog 72 #[.agg #[.int .i64 a0, .int .i64 a1], .agg #[.int .i64 b0, .int .i64 b1]] W fun e w' => (∃ r : Int, e = .returned (.int .i64 r) ∧ (r < 0 ↔ a1 < b1 ∨ (a1 = b1 ∧ a0 < b0))) ∧ Below W.heap.size W w' := by
  have HLT := Lib.hid (cmpLt a1 b1 a0 b0)
  obtain ⟨u, hu⟩ : ∃ u, u = Lib.compareInt a1 b1 := ⟨_, rfl⟩
  obtain ⟨v, hv⟩ : ∃ v, v = Lib.compareInt a0 b0 := ⟨_, rfl⟩
  have H1 := Lib.hid (fun w => Try.cmp_Compare_int a1 b1 w)
  have H2 := Lib.hid (fun w => Try.cmp_Compare_int a0 b0 w)
  rw [← hu] at H1
  rw [← hv] at H2
  rw [← hu, ← hv] at HLT
  clear hu hv
  obtain ⟨r, hrr⟩ : ∃ r, r = if u = 0 then v else u := ⟨_, rfl⟩
  rw [← hrr] at HLT
  have HOR := Lib.hid (fun w g c h0 h1 => or_any u v g c w h0 h1)
  rw [← hrr] at HOR
  clear hrr
  obtain ⟨W0, hW0⟩ : ∃ W0, W0 = (W.alloc (.cells #[.int .i64 a0, .int .i64 a1] 49)).alloc (.cells #[.int .i64 b0, .int .i64 b1] 49) := ⟨_, rfl⟩
  obtain ⟨W1, hW1⟩ : ∃ W1, W1 = W0.drew := ⟨_, rfl⟩
  have hxa : W1.heap[W.heap.size]? = some (.cells #[.int .i64 a0, .int .i64 a1] 49 (0, 0)) := by rw [hW1, hW0]; exact (heap_old _ _ _ (by simp)).trans (heap_new _ _ _ rfl)
  have hxb : W1.heap[W.heap.size + 1]? = some (.cells #[.int .i64 b0, .int .i64 b1] 49 (0, 0)) := by rw [hW1, hW0]; exact heap_new _ _ _ (by simp)
  have x0 : W1.cell? ⟨W.heap.size, 0, none⟩ = some (.int .i64 a0) := by simp [World.cell?, hxa]
  have x1 : W1.cell? ⟨W.heap.size, 1, none⟩ = some (.int .i64 a1) := by simp [World.cell?, hxa]
  have y0 : W1.cell? ⟨W.heap.size + 1, 0, none⟩ = some (.int .i64 b0) := by simp [World.cell?, hxb]
  have y1 : W1.cell? ⟨W.heap.size + 1, 1, none⟩ = some (.int .i64 b1) := by simp [World.cell?, hxb]
  have HGW := Lib.hid (show Below W.heap.size W W1 by rw [hW1, hW0]; exact (((Below.refl _ W).alloc (Nat.le_refl _) _).alloc (by simp) _).drew)
  have hs1 : W1.heap.size = W.heap.size + 2 := by rw [hW1, hW0]; simp
  have HGW0 := Lib.hid (show Below W.heap.size W W0 by rw [hW0]; exact ((Below.refl _ W).alloc (Nat.le_refl _) _).alloc (by simp) _)
  have hs0 : W.heap.size ≤ W0.heap.size := HGW0.out.size
  have HW0 := Lib.hid hW0
  have HW1 := Lib.hid hW1
  have HS1 := Lib.hid hs1
  clear hW0 hW1 hxa hxb hs1
  go_enter Try.func72, Try.ntmps72
  go_wp2_with fail
  rw [← HW0.out]
  refine wp_region_still_tail 10 (by kernel_rfl) (by kernel_rfl) ?_
  change wpStill _ _ W0.drew _ _ _
  rw [← HW1.out]
  simp only [List.take_succ_cons, List.take_zero, List.drop_succ_cons, List.drop_zero]
  repeat still_step
  still_call (H1.out _)
  repeat still_step
  still_call (H2.out _)
  repeat still_step
  refine wpStill_nil ?_
  go_wp2_with (go_at_call 88; refine (HOR.out _ _ _ (by first | (show (World.alloc _ _).cell? _ = _; rw [cell_of_row _ _ _ _ _ _ (heap_new _ _ _ (by simp))]; rfl) | simp) (by first | (show (World.alloc _ _).cell? _ = _; rw [cell_of_row _ _ _ _ _ _ (heap_new _ _ _ (by simp))]; rfl) | simp)).mono ?_; rintro e w' ⟨rfl, rfl⟩)
  all_goals
    go_ret
    refine ⟨⟨r, rfl, HLT.out⟩, ?_⟩
    repeat (first | exact HGW.out | exact HGW0.out | refine Below.alloc ?_ (by have := HS1.out; simp <;> omega) _ | refine Below.drew ?_)

set_option maxHeartbeats 4000000 in
set_option maxRecDepth 100000 in
theorem cmpOpen_any (a0 a1 a2 b0 b1 b2 : Int) (W : World) :
    Calls Try.prog 58 #[.agg #[.int .i64 a0, .int .i64 a1, .int .i64 a2], .agg #[.int .i64 b0, .int .i64 b1, .int .i64 b2]] W fun e w' => (∃ r : Int, e = .returned (.int .i64 r) ∧ (r < 0 ↔ a1 < b1 ∨ (a1 = b1 ∧ a2 < b2))) ∧ Below W.heap.size W w' := by
  have HLT := Lib.hid (cmpLt a1 b1 a2 b2)
  obtain ⟨u, hu⟩ : ∃ u, u = Lib.compareInt a1 b1 := ⟨_, rfl⟩
  obtain ⟨v, hv⟩ : ∃ v, v = Lib.compareInt a2 b2 := ⟨_, rfl⟩
  have H1 := Lib.hid (fun w => Try.cmp_Compare_int a1 b1 w)
  have H2 := Lib.hid (fun w => Try.cmp_Compare_int a2 b2 w)
  rw [← hu] at H1
  rw [← hv] at H2
  rw [← hu, ← hv] at HLT
  clear hu hv
  obtain ⟨r, hrr⟩ : ∃ r, r = if u = 0 then v else u := ⟨_, rfl⟩
  rw [← hrr] at HLT
  have HOR := Lib.hid (fun w g c h0 h1 => or_any u v g c w h0 h1)
  rw [← hrr] at HOR
  clear hrr
  obtain ⟨W0, hW0⟩ : ∃ W0, W0 = (W.alloc (.cells #[.int .i64 a0, .int .i64 a1, .int .i64 a2] 66)).alloc (.cells #[.int .i64 b0, .int .i64 b1, .int .i64 b2] 66) := ⟨_, rfl⟩
  obtain ⟨W1, hW1⟩ : ∃ W1, W1 = W0.drew := ⟨_, rfl⟩
  have hxa : W1.heap[W.heap.size]? = some (.cells #[.int .i64 a0, .int .i64 a1, .int .i64 a2] 66 (0, 0)) := by rw [hW1, hW0]; exact (heap_old _ _ _ (by simp)).trans (heap_new _ _ _ rfl)
  have hxb : W1.heap[W.heap.size + 1]? = some (.cells #[.int .i64 b0, .int .i64 b1, .int .i64 b2] 66 (0, 0)) := by rw [hW1, hW0]; exact heap_new _ _ _ (by simp)
  have x0 : W1.cell? ⟨W.heap.size, 2, none⟩ = some (.int .i64 a2) := by simp [World.cell?, hxa]
  have x1 : W1.cell? ⟨W.heap.size, 1, none⟩ = some (.int .i64 a1) := by simp [World.cell?, hxa]
  have y0 : W1.cell? ⟨W.heap.size + 1, 2, none⟩ = some (.int .i64 b2) := by simp [World.cell?, hxb]
  have y1 : W1.cell? ⟨W.heap.size + 1, 1, none⟩ = some (.int .i64 b1) := by simp [World.cell?, hxb]
  have HGW := Lib.hid (show Below W.heap.size W W1 by rw [hW1, hW0]; exact (((Below.refl _ W).alloc (Nat.le_refl _) _).alloc (by simp) _).drew)
  have hs1 : W1.heap.size = W.heap.size + 2 := by rw [hW1, hW0]; simp
  have HGW0 := Lib.hid (show Below W.heap.size W W0 by rw [hW0]; exact ((Below.refl _ W).alloc (Nat.le_refl _) _).alloc (by simp) _)
  have hs0 : W.heap.size ≤ W0.heap.size := HGW0.out.size
  have HW0 := Lib.hid hW0
  have HW1 := Lib.hid hW1
  have HS1 := Lib.hid hs1
  clear hW0 hW1 hxa hxb hs1
  go_enter Try.func58, Try.ntmps58
  go_wp2_with fail
  rw [← HW0.out]
  refine wp_region_still_tail 10 (by kernel_rfl) (by kernel_rfl) ?_
  change wpStill _ _ W0.drew _ _ _
  rw [← HW1.out]
  simp only [List.take_succ_cons, List.take_zero, List.drop_succ_cons, List.drop_zero]
  repeat still_step
  still_call (H1.out _)
  repeat still_step
  still_call (H2.out _)
  repeat still_step
  refine wpStill_nil ?_
  go_wp2_with (go_at_call 88; refine (HOR.out _ _ _ (by first | (show (World.alloc _ _).cell? _ = _; rw [cell_of_row _ _ _ _ _ _ (heap_new _ _ _ (by simp))]; rfl) | simp) (by first | (show (World.alloc _ _).cell? _ = _; rw [cell_of_row _ _ _ _ _ _ (heap_new _ _ _ (by simp))]; rfl) | simp)).mono ?_; rintro e w' ⟨rfl, rfl⟩)
  all_goals
    go_ret
    refine ⟨⟨r, rfl, HLT.out⟩, ?_⟩
    repeat (first | exact HGW.out | exact HGW0.out | refine Below.alloc ?_ (by have := HS1.out; simp <;> omega) _ | refine Below.drew ?_)

end Go.Proofs.Ytokhkcebdbopcaa
