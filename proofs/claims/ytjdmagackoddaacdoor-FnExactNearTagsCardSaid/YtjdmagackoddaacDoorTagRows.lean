/- The laws' own comparisons and marks of slices of tags. -/
import Derived.Test.YtjdmagackoddaacDoorSmall
import Derived.Test.YtjdmagackoddaacDoorChecked
import Derived.Deep.LoopGhost
import Derived.BigQuiet
import Derived.Deep.QuietTactic
import Derived.Deep.RegionWith
import Derived.OwnWalk
namespace Go.Proofs.YtjdmagackoddaacDoor
open Go.RowKit

theorem cellsTag : Tryd.prog.cellsOf 23 = 3 := by kernel_rfl
theorem eqTag_one (a b c : Int) (w : World) :
    Calls Tryd.prog 9 #[.agg #[.int .i64 a, .int .i64 b, .int .i64 c], .agg #[.int .i64 a, .int .i64 b, .int .i64 c]] w fun e w' => e = .returned (.bool true) ∧ Below w.heap.size w w' := by
  go_enter Tryd.func9, Tryd.ntmps9
  go_wp2
  go_ret
  refine ⟨rfl, ?_⟩
  repeat (first | exact Below.refl _ _ | refine Below.alloc ?_ (by simp <;> omega) _ | refine Below.setCell ?_ (by simp <;> omega) _ | refine Below.drew ?_)

set_option maxRecDepth 100000 in
set_option maxHeartbeats 1000000 in
theorem eqTagS_any (n : Nat) (hn : n ≤ 1048576) (xs : List Int) (pa pb : Option Addr) (ca cb : Nat) (ga gb : Nat) (w : World)
    (ha : 0 < n → pa = some ⟨ga, 0, none⟩ ∧ ga < w.heap.size) (hb : 0 < n → pb = some ⟨gb, 0, none⟩ ∧ gb < w.heap.size)
    (hca : ∀ j, j < n * 3 → w.cell? ⟨ga, j, none⟩ = some (.int .i64 (xs.getD j 0))) (hcb : ∀ j, j < n * 3 → w.cell? ⟨gb, j, none⟩ = some (.int .i64 (xs.getD j 0))) :
    Calls Tryd.prog 12 #[.slice pa n ca, .slice pb n cb] w fun e w' => e = .returned (.bool true) ∧ Below w.heap.size w w' := by
  have HA := Lib.hid hca
  have HB := Lib.hid hcb
  have PA := Lib.hid ha
  have PB := Lib.hid hb
  clear hca hcb ha hb
  have c3 := cellsTag
  go_enter Tryd.func12, Tryd.ntmps12
  go_wp2_with fail
  go_loopw [5] (fun v wr => ∃ k : Nat, k ≤ n ∧ v = .int .i64 (k : Int) ∧ Below w.heap.size w wr) (fun v _ => n - (intOf v).toNat)
  case atStart => exact ⟨0, by omega, rfl, Below.refl _ _⟩
  case round =>
    obtain ⟨k, hk, rfl, hbw⟩ := hrel
    by_cases hkn : k < n
    · obtain ⟨rfl, hga⟩ := PA.out (by omega)
      obtain ⟨rfl, hgb⟩ := PB.out (by omega)
      have a0 := (hbw.cell (p := ⟨ga, k * 3, none⟩) hga).trans (HA.out (k * 3) (by omega))
      have a1 := (hbw.cell (p := ⟨ga, k * 3 + 1, none⟩) hga).trans (HA.out (k * 3 + 1) (by omega))
      have a2 := (hbw.cell (p := ⟨ga, k * 3 + 2, none⟩) hga).trans (HA.out (k * 3 + 2) (by omega))
      have b0 := (hbw.cell (p := ⟨gb, k * 3, none⟩) hgb).trans (HB.out (k * 3) (by omega))
      have b1 := (hbw.cell (p := ⟨gb, k * 3 + 1, none⟩) hgb).trans (HB.out (k * 3 + 1) (by omega))
      have b2 := (hbw.cell (p := ⟨gb, k * 3 + 2, none⟩) hgb).trans (HB.out (k * 3 + 2) (by omega))
      obtain ⟨x0, hx0⟩ : ∃ x, x = xs.getD (k * 3) 0 := ⟨_, rfl⟩
      obtain ⟨x1, hx1⟩ : ∃ x, x = xs.getD (k * 3 + 1) 0 := ⟨_, rfl⟩
      obtain ⟨x2, hx2⟩ : ∃ x, x = xs.getD (k * 3 + 2) 0 := ⟨_, rfl⟩
      rw [← hx0] at a0 b0
      rw [← hx1] at a1 b1
      rw [← hx2] at a2 b2
      clear hx0 hx1 hx2
      have hk0 : (0 : Int) ≤ (k : Int) := by omega
      have hkl : (k : Int) < (n : Int) := by omega
      go_wp2_with fail
      go_region_with (go_at_call 9; refine (eqTag_one x0 x1 x2 _).mono ?_; rintro e w2 ⟨rfl, hb2⟩)
      all_goals
        have hbw2 : Below w.heap.size w w2 := by first | exact hbw.trans (hb2.mono hbw.size) | exact hbw.drew.trans (hb2.mono hbw.size)
        go_wp2_with fail
        go_roundw
        case rel => exact ⟨k + 1, by omega, by congr 1, hbw2⟩
        case measure => simp only [intOf]; omega
    · obtain rfl : k = n := by omega
      go_wp2_with fail
      go_ret
      exact ⟨rfl, hbw⟩

set_option maxRecDepth 100000 in
set_option maxHeartbeats 1000000 in
theorem heldTagS_any (n : Nat) (hn : n ≤ 1048576) (pa : Option Addr) (ca ga : Nat) (w : World) (ha : 0 < n → pa = some ⟨ga, 0, none⟩ ∧ ga < w.heap.size)
    (hca : ∀ j, j < n * 3 → w.cell? ⟨ga, j, none⟩ = some (.int .i64 ((1 + j : Nat) : Int))) :
    Calls Tryd.prog 14 #[.slice pa n ca, .int .i64 1] w fun e w' => e = .returned (.int .i64 ((1 + n * 3 : Nat) : Int)) ∧ Below w.heap.size w w' := by
  have HA := Lib.hid hca
  have PA := Lib.hid ha
  clear hca ha
  have c3 := cellsTag
  go_enter Tryd.func14, Tryd.ntmps14
  go_wp2_with fail
  go_loopw [1, 5] (fun m v wr => ∃ k : Nat, k ≤ n ∧ v = .int .i64 (k : Int) ∧ m = .int .i64 ((1 + k * 3 : Nat) : Int) ∧ Below w.heap.size w wr) (fun _ v _ => n - (intOf v).toNat)
  case atStart => exact ⟨0, by omega, rfl, rfl, Below.refl _ _⟩
  case round =>
    obtain ⟨k, hk, rfl, rfl, hbw⟩ := hrel
    by_cases hkn : k < n
    · obtain ⟨rfl, hga⟩ := PA.out (by omega)
      have a0 := (hbw.cell (p := ⟨ga, k * 3, none⟩) hga).trans (HA.out (k * 3) (by omega))
      have a1 := (hbw.cell (p := ⟨ga, k * 3 + 1, none⟩) hga).trans (HA.out (k * 3 + 1) (by omega))
      have a2 := (hbw.cell (p := ⟨ga, k * 3 + 2, none⟩) hga).trans (HA.out (k * 3 + 2) (by omega))
      obtain ⟨z, hz⟩ : ∃ z : Nat, z = 1 + k * 3 := ⟨_, rfl⟩
      rw [← hz] at a0 ⊢
      rw [show 1 + (k * 3 + 1) = z + 1 by omega] at a1
      rw [show 1 + (k * 3 + 2) = z + 1 + 1 by omega] at a2
      have hz9 : z ≤ 4000000 := by omega
      have HZ := Lib.hid hz
      clear hz
      have hk0 : (0 : Int) ≤ (k : Int) := by omega
      have hkl : (k : Int) < (n : Int) := by omega
      go_wp2_with fail
      go_roundw
      case rel => exact ⟨k + 1, by omega, by congr 1, by congr 1; have := HZ.out; omega, hbw⟩
      case measure => simp only [intOf]; omega
    · obtain rfl : k = n := by omega
      go_wp2_with fail
      go_ret
      exact ⟨rfl, hbw⟩

set_option maxRecDepth 100000 in
set_option maxHeartbeats 1000000 in
theorem markTagS_any (n : Nat) (hn : n ≤ 1048576) (v : Value) (xs : List Value) (B : Nat) (w : World) (h : w.ownsRow B 23 3 v n xs) :
    Calls Tryd.prog 13 #[v, .int .i64 1] w fun e w' => e = .returned (.int .i64 ((1 + n * 3 : Nat) : Int)) ∧ w.heap.size ≤ w'.heap.size ∧ Below B w w' ∧ ∃ ys, w'.ownsRow B 23 3 v n ys ∧ ∀ j, j < n * 3 → ys[j]? = some (.int .i64 ((1 + j : Nat) : Int)) := by
  obtain ⟨pa, ca, ga, rfl, ha⟩ : ∃ pa ca ga, v = .slice pa n ca ∧ (0 < n → pa = some ⟨ga, 0, none⟩ ∧ B ≤ ga) := by
    rcases h.2 with ⟨rfl, rfl⟩ | ⟨g, cap, cur, rfl, hb, -⟩
    · exact ⟨_, _, 0, rfl, fun h => absurd h (by omega)⟩
    · exact ⟨_, _, g, rfl, fun _ => ⟨rfl, hb⟩⟩
  have H := Lib.hid h
  have PA := Lib.hid ha
  clear h ha
  have c3 := cellsTag
  go_enter Tryd.func13, Tryd.ntmps13
  go_wp2_with fail
  go_loopw [1, 5] (fun m v wr => ∃ (k : Nat) (ys : List Value), k ≤ n ∧ v = .int .i64 (k : Int) ∧ m = .int .i64 ((1 + k * 3 : Nat) : Int) ∧ wr.ownsRow B 23 3 (.slice pa n ca) n ys ∧ Hid (∀ j, j < k * 3 → ys[j]? = some (.int .i64 ((1 + j : Nat) : Int))) ∧ w.heap.size ≤ wr.heap.size ∧ Below B w wr) (fun _ v _ => n - (intOf v).toNat)
  case atStart => exact ⟨0, xs, by omega, rfl, rfl, H.out, fun j hj => absurd hj (by omega), Nat.le_refl _, Below.refl _ _⟩
  case round =>
    obtain ⟨k, ys, hk, rfl, rfl, hown, HY, hsz, hbw⟩ := hrel
    by_cases hkn : k < n
    · obtain ⟨rfl, hga⟩ := PA.out (by omega)
      have hylen := hown.1
      obtain ⟨u0, a0⟩ : ∃ u, wr.cell? ⟨ga, k * 3, none⟩ = some u := ⟨_, (hown.cellAt (k * 3) (by omega)).trans (List.getElem?_eq_getElem (by omega))⟩
      obtain ⟨u1, a1⟩ : ∃ u, wr.cell? ⟨ga, k * 3 + 1, none⟩ = some u := ⟨_, (hown.cellAt (k * 3 + 1) (by omega)).trans (List.getElem?_eq_getElem (by omega))⟩
      obtain ⟨u2, a2⟩ : ∃ u, wr.cell? ⟨ga, k * 3 + 2, none⟩ = some u := ⟨_, (hown.cellAt (k * 3 + 2) (by omega)).trans (List.getElem?_eq_getElem (by omega))⟩
      have f0 := hown.frozenAt (k * 3)
      have f1 := hown.frozenAt (k * 3 + 1)
      have f2 := hown.frozenAt (k * 3 + 2)
      obtain ⟨z, hz⟩ : ∃ z : Nat, z = 1 + k * 3 := ⟨_, rfl⟩
      rw [← hz]
      have hz9 : z ≤ 4000000 := by omega
      have hs0 := hown.stored (k * 3) (.int .i64 (z : Int))
      have hs1 := hs0.1.stored (k * 3 + 1) (.int .i64 ((z : Int) + 1))
      have hs2 := hs1.1.stored (k * 3 + 2) (.int .i64 ((z : Int) + 1 + 1))
      have hb2 : Below B w (((wr.setCell ⟨ga, k * 3, none⟩ (.int .i64 (z : Int))).setCell ⟨ga, k * 3 + 1, none⟩ (.int .i64 ((z : Int) + 1))).setCell ⟨ga, k * 3 + 2, none⟩ (.int .i64 ((z : Int) + 1 + 1))) := ((hbw.setCell hga _).setCell hga _).setCell hga _
      have HS := Lib.hid hs2.1
      have HZ := Lib.hid hz
      have HL := Lib.hid hylen
      have HB := Lib.hid hb2
      clear hz hs0 hs1 hs2 hown hylen hb2
      have hk0 : (0 : Int) ≤ (k : Int) := by omega
      have hkl : (k : Int) < (n : Int) := by omega
      go_wp2_with fail
      go_roundw
      case rel =>
        refine ⟨k + 1, _, by omega, by congr 1, by congr 1; have := HZ.out; omega, HS.out, ?_, by simp [World.setCell]; omega, HB.out⟩
        intro j hj
        have hz := HZ.out
        have hl := HL.out
        simp only [List.getElem?_set]
        by_cases e2 : k * 3 + 2 = j
        · subst e2; rw [if_pos rfl, if_pos (by simp; omega)]; congr 2; omega
        · rw [if_neg e2]
          by_cases e1 : k * 3 + 1 = j
          · subst e1; rw [if_pos rfl, if_pos (by simp; omega)]; congr 2; omega
          · rw [if_neg e1]
            by_cases e0 : k * 3 = j
            · subst e0; rw [if_pos rfl, if_pos (by omega)]; congr 2; omega
            · rw [if_neg e0]; exact HY.out j (by omega)
      case measure => simp only [intOf]; omega
    · obtain rfl : k = n := by omega
      go_wp2_with fail
      go_ret
      exact ⟨rfl, hsz, hbw, ys, hown, HY.out⟩

end Go.Proofs.YtjdmagackoddaacDoor
