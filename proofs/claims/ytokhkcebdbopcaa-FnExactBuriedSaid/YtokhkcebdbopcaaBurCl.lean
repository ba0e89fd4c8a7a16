/- Whether a row of Kept has an element of a kind: the library's ContainsFunc with the program's closure Buried 1. -/
import Derived.Test.YtokhkcebdbopcaaFlat
import Derived.Test.YtokhkcebdbopcaaChecked
import Derived.Test.YtokhkcebdbopcaaSmall
import Derived.BigQuiet
import Derived.Deep.QuietTactic
import Derived.OwnWalk
import Derived.IntWalk
import Derived.Shelf.Abstract
namespace Go.Proofs.Ytokhkcebdbopcaa
open Go.RowKit Go.Shelf
set_option linter.unusedVariables false
theorem burCl_cells : Try.prog.cellsOf 49 = 2 := by kernel_rfl
theorem burCl_yes (x0 x1 : Int) (T : Int) (b : Nat) (W : World) (hb1 : W.cell? ⟨b, 1, none⟩ = some (.int .i64 T)) (hlt : b < W.heap.size) (he : x1 < T) :
    Calls Try.prog 66 #[.agg #[.int .i64 x0, .int .i64 x1], .pointer (some ⟨b, 0, none⟩)] W fun e w' => e = .returned (.bool true) ∧ Below W.heap.size W w' := by
  have hd : decide (x1 < T) = true := decide_eq_true he
  have hs : W.heap.size ≠ b := by omega
  clear he
  go_enter Try.func66, Try.ntmps66
  go_wp2_with fail
  go_ret
  refine ⟨rfl, ?_⟩
  repeat (first | exact Below.refl _ _ | refine Below.alloc ?_ (by simp <;> omega) _ | refine Below.setCell ?_ (by simp <;> omega) _ | refine Below.drew ?_)
theorem burCl_no (x0 x1 : Int) (T : Int) (b : Nat) (W : World) (hb1 : W.cell? ⟨b, 1, none⟩ = some (.int .i64 T)) (hlt : b < W.heap.size) (he : ¬ (x1 < T)) :
    Calls Try.prog 66 #[.agg #[.int .i64 x0, .int .i64 x1], .pointer (some ⟨b, 0, none⟩)] W fun e w' => e = .returned (.bool false) ∧ Below W.heap.size W w' := by
  have hd : decide (x1 < T) = false := decide_eq_false he
  have hs : W.heap.size ≠ b := by omega
  clear he
  go_enter Try.func66, Try.ntmps66
  go_wp2_with fail
  go_ret
  refine ⟨rfl, ?_⟩
  repeat (first | exact Below.refl _ _ | refine Below.alloc ?_ (by simp <;> omega) _ | refine Below.setCell ?_ (by simp <;> omega) _ | refine Below.drew ?_)

set_option maxRecDepth 100000 in
set_option maxHeartbeats 1000000 in
theorem burCl_index (n : Nat) (hn : n ≤ maxLen) (z : Nat → Int) (p : Option Addr) (c g o : Nat) (T : Int) (b : Nat) (w : World) (hb1 : w.cell? ⟨b, 1, none⟩ = some (.int .i64 T)) (hlt : b < w.heap.size) (h : FlatAt w 0 w.heap.size p g o (n * 2) (fun j => .int .i64 (z j))) :
    Calls Try.prog 95 #[.slice p n c, .func (.func 66) #[] #[.pointer (some ⟨b, 0, none⟩)]] w fun e w' => (∃ i : Int, e = .returned (.int .i64 i) ∧ (0 ≤ i ↔ ∃ j, j < n ∧ z (j * 2 + 1) < T)) ∧ Below w.heap.size w w' := by
  unfold maxLen at hn
  have eg : ∀ args w, (callFunc 66 args).run Try.prog w = .ok (.enter 66 args) w := enters_of Try.func66 (by kernel_rfl) rfl
  have H := Lib.hid h
  have c3 := burCl_cells
  clear h
  go_enter Try.func95, Try.ntmps95
  go_wp2_with fail
  go_loopw [8] (fun v wr => ∃ k : Nat, k ≤ n ∧ v = .int .i64 (k : Int) ∧ Below w.heap.size w wr ∧ Hid (∀ j, j < k → T ≤ z (j * 2 + 1))) (fun v _ => n - (intOf v).toNat)
  case atStart => exact ⟨0, by omega, rfl, Below.refl _ _, fun j hj => absurd hj (by omega)⟩
  case round =>
    obtain ⟨k, hk, rfl, hbw, HN⟩ := hrel
    by_cases hkn : k < n
    · obtain ⟨rfl, -, hg⟩ := H.out.1 (by omega)
      obtain ⟨a0, a1⟩ := H.out.at2 hbw (Nat.le_refl _) k (by omega)
      have hr1 := (hbw.cell (p := ⟨b, 1, none⟩) hlt).trans hb1
      have hbl : b < wr.heap.size := Nat.lt_of_lt_of_le hlt hbw.size
      have hk0 : (0 : Int) ≤ (k : Int) := by omega
      have hkl : (k : Int) < (n : Int) := by omega
      by_cases hx : z (k * 2 + 1) < T
      · have hc := Lib.hid (fun W (hW : Below wr.heap.size wr W) => burCl_yes (z (k * 2)) (z (k * 2 + 1)) T b W ((hW.cell (p := ⟨b, 1, none⟩) hbl).trans hr1) (Nat.lt_of_lt_of_le hbl hW.size) hx)
        have HX := Lib.hid hx
        clear hx hr1
        go_wp2_with (go_at_fn 66; refine (hc.out _ (Below.refl _ _)).mono ?_; rintro e w2 ⟨rfl, hb2⟩)
        go_ret
        exact ⟨⟨k, rfl, ⟨fun _ => ⟨k, hkn, HX.out⟩, fun _ => hk0⟩⟩, hbw.trans (hb2.mono hbw.size)⟩
      · have hc := Lib.hid (fun W (hW : Below wr.heap.size wr W) => burCl_no (z (k * 2)) (z (k * 2 + 1)) T b W ((hW.cell (p := ⟨b, 1, none⟩) hbl).trans hr1) (Nat.lt_of_lt_of_le hbl hW.size) hx)
        have HX := Lib.hid hx
        clear hx hr1
        go_wp2_with (go_at_fn 66; refine (hc.out _ (Below.refl _ _)).mono ?_; rintro e w2 ⟨rfl, hb2⟩)
        go_roundw
        case rel => exact ⟨k + 1, by omega, by congr 1, hbw.trans (hb2.mono hbw.size), fun j hj => by
          by_cases e : j = k
          · subst e; exact (by first | exact HX.out | exact Int.not_lt.1 HX.out)
          · exact HN.out j (by omega)⟩
        case measure => simp only [intOf]; omega
    · obtain rfl : k = n := by omega
      go_wp2_with fail
      go_ret
      refine ⟨⟨-1, rfl, ⟨fun h => absurd h (by omega), ?_⟩⟩, hbw⟩
      rintro ⟨j, hj, hz⟩
      exact absurd hz (Int.not_lt.2 (HN.out j hj))

theorem burCl_any (n : Nat) (hn : n ≤ maxLen) (z : Nat → Int) (p : Option Addr) (c g o : Nat) (T : Int) (b : Nat) (w : World) (hb1 : w.cell? ⟨b, 1, none⟩ = some (.int .i64 T)) (hlt : b < w.heap.size) (h : FlatAt w 0 w.heap.size p g o (n * 2) (fun j => .int .i64 (z j))) (t : Bool) (ht : t = true ↔ ∃ j, j < n ∧ z (j * 2 + 1) < T) :
    Calls Try.prog 65 #[.slice p n c, .func (.func 66) #[] #[.pointer (some ⟨b, 0, none⟩)]] w fun e w' => e = .returned (.bool t) ∧ Below w.heap.size w w' := by
  have hc := Lib.hid (burCl_index n hn z p c g o T b w hb1 hlt h)
  clear h hb1
  go_enter Try.func65, Try.ntmps65
  go_wp2_with fail
  refine hc.out.mono ?_
  rintro e w2 ⟨⟨i, rfl, hi⟩, hb2⟩
  have ht2 : t = true ↔ 0 ≤ i := ht.trans hi.symm
  clear ht hi
  cases t
  · have hi0 : ¬ (0 ≤ i) := fun h => by have := ht2.2 h; cases this
    clear ht2
    have hd : decide (0 ≤ i) = false := decide_eq_false hi0
    go_wp2
    go_ret
    exact ⟨rfl, hb2⟩
  · have hi0 : 0 ≤ i := ht2.1 rfl
    clear ht2
    go_wp2
    go_ret
    exact ⟨rfl, hb2⟩

end Go.Proofs.Ytokhkcebdbopcaa
