/- Whether a row has a bag: expected, by the library's ContainsFunc and the program's closure. -/
import Derived.Test.YtlklggkkkbamhaaFlat
import Derived.Test.YtlklggkkkbamhaaTrackPlain
import Derived.Test.YtlklggkkkbamhaaChecked
import Derived.Test.YtlklggkkkbamhaaSmall
import Derived.BigQuiet
import Derived.Deep.QuietTactic
import Derived.OwnWalk
import Derived.IntWalk
import Derived.Shelf.Abstract
namespace Go.Proofs.Ytlklggkkkbamhaa
open Go.RowKit Go.Shelf

theorem cellsexpected : Try.prog.cellsOf 46 = 3 := by kernel_rfl
theorem expected1_yes (x0 x1 x2 bag : Int) (b : Nat) (w : World) (hb : w.cell? ⟨b, 0, none⟩ = some (.int .i64 bag)) (hlt : b < w.heap.size) (he : x0 = bag) :
    Calls Try.prog 63 #[.agg #[.int .i64 x0, .int .i64 x1, .int .i64 x2], .pointer (some ⟨b, 0, none⟩)] w fun e w' => e = .returned (.bool true) ∧ Below w.heap.size w w' := by
  subst he
  have hs : w.heap.size ≠ b := by omega
  go_enter Try.func63, Try.ntmps63
  go_wp2_with fail
  go_ret
  refine ⟨rfl, ?_⟩
  repeat (first | exact Below.refl _ _ | refine Below.alloc ?_ (by simp <;> omega) _ | refine Below.setCell ?_ (by simp <;> omega) _ | refine Below.drew ?_)
theorem expected1_no (x0 x1 x2 bag : Int) (b : Nat) (w : World) (hb : w.cell? ⟨b, 0, none⟩ = some (.int .i64 bag)) (hlt : b < w.heap.size) (he : x0 ≠ bag) :
    Calls Try.prog 63 #[.agg #[.int .i64 x0, .int .i64 x1, .int .i64 x2], .pointer (some ⟨b, 0, none⟩)] w fun e w' => e = .returned (.bool false) ∧ Below w.heap.size w w' := by
  have hs : w.heap.size ≠ b := by omega
  have hd : (x0 == bag) = false := by simpa using he
  go_enter Try.func63, Try.ntmps63
  go_wp2_with fail
  go_ret
  refine ⟨rfl, ?_⟩
  repeat (first | exact Below.refl _ _ | refine Below.alloc ?_ (by simp <;> omega) _ | refine Below.setCell ?_ (by simp <;> omega) _ | refine Below.drew ?_)

set_option maxRecDepth 100000 in
set_option maxHeartbeats 1000000 in
theorem expected_index (n : Nat) (hn : n ≤ maxLen) (z : Nat → Int) (p : Option Addr) (c g o : Nat) (bag : Int) (b : Nat) (w : World) (hb : w.cell? ⟨b, 0, none⟩ = some (.int .i64 bag)) (hlt : b < w.heap.size) (h : FlatAt w 0 w.heap.size p g o (n * 3) (fun j => .int .i64 (z j))) :
    Calls Try.prog 67 #[.slice p n c, .func (.func 63) #[] #[.pointer (some ⟨b, 0, none⟩)]] w fun e w' => (∃ i : Int, e = .returned (.int .i64 i) ∧ (0 ≤ i ↔ hasE z n bag)) ∧ Below w.heap.size w w' := by
  unfold maxLen at hn
  have eg : ∀ args w, (callFunc 63 args).run Try.prog w = .ok (.enter 63 args) w := enters_of Try.func63 (by kernel_rfl) rfl
  have H := Lib.hid h
  have c3 := cellsexpected
  clear h
  go_enter Try.func67, Try.ntmps67
  go_wp2_with fail
  go_loopw [8] (fun v wr => ∃ k : Nat, k ≤ n ∧ v = .int .i64 (k : Int) ∧ Below w.heap.size w wr ∧ Hid (∀ j, j < k → z (j * 3) ≠ bag)) (fun v _ => n - (intOf v).toNat)
  case atStart => exact ⟨0, by omega, rfl, Below.refl _ _, fun j hj => absurd hj (by omega)⟩
  case round =>
    obtain ⟨k, hk, rfl, hbw, HN⟩ := hrel
    by_cases hkn : k < n
    · obtain ⟨rfl, -, hg⟩ := H.out.1 (by omega)
      obtain ⟨a0, a1, a2⟩ := H.out.at3 hbw (Nat.le_refl _) k (by omega)
      have hbr := (hbw.cell (p := ⟨b, 0, none⟩) hlt).trans hb
      have hbl : b < wr.heap.size := Nat.lt_of_lt_of_le hlt hbw.size
      have hk0 : (0 : Int) ≤ (k : Int) := by omega
      have hkl : (k : Int) < (n : Int) := by omega
      by_cases hx : z (k * 3) = bag
      · have hc := Lib.hid (fun W (hW : Below wr.heap.size wr W) => expected1_yes (z (k * 3)) (z (k * 3 + 1)) (z (k * 3 + 2)) bag b W ((hW.cell (p := ⟨b, 0, none⟩) hbl).trans hbr) (Nat.lt_of_lt_of_le hbl hW.size) hx)
        have HX := Lib.hid hx
        clear hx hbr
        go_wp2_with (go_at_fn 63; refine (hc.out _ (Below.refl _ _)).mono ?_; rintro e w2 ⟨rfl, hb2⟩)
        go_ret
        exact ⟨⟨k, rfl, ⟨fun _ => ⟨k, hkn, HX.out⟩, fun _ => hk0⟩⟩, hbw.trans (hb2.mono hbw.size)⟩
      · have hc := Lib.hid (fun W (hW : Below wr.heap.size wr W) => expected1_no (z (k * 3)) (z (k * 3 + 1)) (z (k * 3 + 2)) bag b W ((hW.cell (p := ⟨b, 0, none⟩) hbl).trans hbr) (Nat.lt_of_lt_of_le hbl hW.size) hx)
        have HX := Lib.hid hx
        clear hx hbr
        go_wp2_with (go_at_fn 63; refine (hc.out _ (Below.refl _ _)).mono ?_; rintro e w2 ⟨rfl, hb2⟩)
        go_roundw
        case rel => exact ⟨k + 1, by omega, by congr 1, hbw.trans (hb2.mono hbw.size), fun j hj => by
          by_cases e : j = k
          · subst e; exact HX.out
          · exact HN.out j (by omega)⟩
        case measure => simp only [intOf]; omega
    · obtain rfl : k = n := by omega
      go_wp2_with fail
      go_ret
      refine ⟨⟨-1, rfl, ⟨fun h => absurd h (by omega), ?_⟩⟩, hbw⟩
      rintro ⟨j, hj, hz⟩
      exact absurd hz (HN.out j hj)

theorem expected_contains (n : Nat) (hn : n ≤ maxLen) (z : Nat → Int) (p : Option Addr) (c g o : Nat) (bag : Int) (b : Nat) (w : World) (hb : w.cell? ⟨b, 0, none⟩ = some (.int .i64 bag)) (hlt : b < w.heap.size) (h : FlatAt w 0 w.heap.size p g o (n * 3) (fun j => .int .i64 (z j)))
    (t : Bool) (ht : t = true ↔ hasE z n bag) :
    Calls Try.prog 62 #[.slice p n c, .func (.func 63) #[] #[.pointer (some ⟨b, 0, none⟩)]] w fun e w' => e = .returned (.bool t) ∧ Below w.heap.size w w' := by
  have hc := Lib.hid (expected_index n hn z p c g o bag b w hb hlt h)
  clear h hb
  go_enter Try.func62, Try.ntmps62
  go_wp2_with fail
  refine hc.out.mono ?_
  rintro e w2 ⟨⟨i, rfl, hi⟩, hb2⟩
  have ht2 : t = true ↔ 0 ≤ i := ht.trans hi.symm
  clear ht hi
  cases t
  · have hi0 : ¬ (0 ≤ i) := fun h => by have := ht2.2 h; cases this
    clear ht2
    have hd : decide (0 ≤ i) = false := decide_eq_false hi0
    go_wp2
    go_ret
    exact ⟨rfl, hb2⟩
  · have hi0 : 0 ≤ i := ht2.1 rfl
    clear ht2
    go_wp2
    go_ret
    exact ⟨rfl, hb2⟩

theorem expected_any (n : Nat) (hn : n ≤ maxLen) (z : Nat → Int) (p : Option Addr) (c g o : Nat) (bag : Int) (w : World) (h : FlatAt w 0 w.heap.size p g o (n * 3) (fun j => .int .i64 (z j)))
    (t : Bool) (ht : t = true ↔ hasE z n bag) :
    Calls Try.prog 47 #[.slice p n c, .int .i64 bag] w fun e w' => e = .returned (.bool t) ∧ Below w.heap.size w w' := by
  have hw : Below w.heap.size w (w.alloc (.cells #[.int .i64 bag] 3)) := (Below.refl _ _).alloc (Nat.le_refl _) _
  have hc := Lib.hid (expected_contains n hn z p c g o bag w.heap.size (w.alloc (.cells #[.int .i64 bag] 3)) (by rw [cell_of_row _ _ _ _ _ _ (heap_alloc_new w _)]; rfl) (by simp) ((h.below hw (Nat.le_refl _)).wide (Nat.le_refl _) (by simp)) t ht)
  clear h hw ht
  go_enter Try.func47, Try.ntmps47
  go_wp2_with fail
  refine hc.out.mono ?_
  rintro e w2 ⟨rfl, hb2⟩
  go_wp2
  go_ret
  exact ⟨rfl, below_via hb2 ((Below.refl _ _).alloc (Nat.le_refl _) _) (by simp)⟩

end Go.Proofs.Ytlklggkkkbamhaa
