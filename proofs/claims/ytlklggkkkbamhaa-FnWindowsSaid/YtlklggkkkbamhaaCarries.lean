/- Whether items have a bag: carries, by the library's ContainsFunc and the program's closure. -/
import Derived.Test.YtlklggkkkbamhaaFlat
import Derived.Test.YtlklggkkkbamhaaBeltPlain
import Derived.Test.YtlklggkkkbamhaaChecked
import Derived.Test.YtlklggkkkbamhaaSmall
import Derived.BigQuiet
import Derived.Deep.QuietTactic
import Derived.OwnWalk
import Derived.IntWalk
import Derived.Shelf.Abstract
namespace Go.Proofs.Ytlklggkkkbamhaa
open Go.RowKit Go.Shelf

theorem cellsItemC : Try.prog.cellsOf 32 = 3 := by kernel_rfl
theorem carry1_yes (x0 x1 x2 bag : Int) (b : Nat) (w : World) (hb : w.cell? ⟨b, 0, none⟩ = some (.int .i64 bag)) (hlt : b < w.heap.size) (he : x0 = bag) :
    Calls Try.prog 58 #[.agg #[.int .i64 x0, .int .i64 x1, .int .i64 x2], .pointer (some ⟨b, 0, none⟩)] w fun e w' => e = .returned (.bool true) ∧ Below w.heap.size w w' := by
  subst he
  have hs : w.heap.size ≠ b := by omega
  go_enter Try.func58, Try.ntmps58
  go_wp2_with fail
  go_ret
  refine ⟨rfl, ?_⟩
  repeat (first | exact Below.refl _ _ | refine Below.alloc ?_ (by simp <;> omega) _ | refine Below.setCell ?_ (by simp <;> omega) _ | refine Below.drew ?_)
theorem carry1_no (x0 x1 x2 bag : Int) (b : Nat) (w : World) (hb : w.cell? ⟨b, 0, none⟩ = some (.int .i64 bag)) (hlt : b < w.heap.size) (he : x0 ≠ bag) :
    Calls Try.prog 58 #[.agg #[.int .i64 x0, .int .i64 x1, .int .i64 x2], .pointer (some ⟨b, 0, none⟩)] w fun e w' => e = .returned (.bool false) ∧ Below w.heap.size w w' := by
  have hs : w.heap.size ≠ b := by omega
  have hd : (x0 == bag) = false := by simpa using he
  go_enter Try.func58, Try.ntmps58
  go_wp2_with fail
  go_ret
  refine ⟨rfl, ?_⟩
  repeat (first | exact Below.refl _ _ | refine Below.alloc ?_ (by simp <;> omega) _ | refine Below.setCell ?_ (by simp <;> omega) _ | refine Below.drew ?_)


/-- Whether one of the first n bags is this. -/
def hasB (z : Nat → Int) (n : Nat) (bag : Int) : Prop := ∃ j, j < n ∧ z (j * 3) = bag

set_option maxRecDepth 100000 in
set_option maxHeartbeats 1000000 in
theorem index_any (n : Nat) (hn : n ≤ maxLen) (z : Nat → Int) (p : Option Addr) (c g o : Nat) (bag : Int) (b : Nat) (w : World) (hb : w.cell? ⟨b, 0, none⟩ = some (.int .i64 bag)) (hlt : b < w.heap.size) (h : FlatAt w 0 w.heap.size p g o (n * 3) (fun j => .int .i64 (z j))) :
    Calls Try.prog 66 #[.slice p n c, .func (.func 58) #[] #[.pointer (some ⟨b, 0, none⟩)]] w fun e w' => (∃ i : Int, e = .returned (.int .i64 i) ∧ (0 ≤ i ↔ hasB z n bag)) ∧ Below w.heap.size w w' := by
  unfold maxLen at hn
  have eg : ∀ args w, (callFunc 58 args).run Try.prog w = .ok (.enter 58 args) w := enters_of Try.func58 (by kernel_rfl) rfl
  have H := Lib.hid h
  have c3 := cellsItemC
  clear h
  go_enter Try.func66, Try.ntmps66
  go_wp2_with fail
  go_loopw [8] (fun v wr => ∃ k : Nat, k ≤ n ∧ v = .int .i64 (k : Int) ∧ Below w.heap.size w wr ∧ Hid (∀ j, j < k → z (j * 3) ≠ bag)) (fun v _ => n - (intOf v).toNat)
  case atStart => exact ⟨0, by omega, rfl, Below.refl _ _, fun j hj => absurd hj (by omega)⟩
  case round =>
    obtain ⟨k, hk, rfl, hbw, HN⟩ := hrel
    by_cases hkn : k < n
    · obtain ⟨rfl, -, hg⟩ := H.out.1 (by omega)
      obtain ⟨a0, a1, a2⟩ := H.out.at3 hbw (Nat.le_refl _) k (by omega)
      have hbr := (hbw.cell (p := ⟨b, 0, none⟩) hlt).trans hb
      have hbl : b < wr.heap.size := Nat.lt_of_lt_of_le hlt hbw.size
      have hk0 : (0 : Int) ≤ (k : Int) := by omega
      have hkl : (k : Int) < (n : Int) := by omega
      by_cases hx : z (k * 3) = bag
      · have hc := Lib.hid (fun W (hW : Below wr.heap.size wr W) => carry1_yes (z (k * 3)) (z (k * 3 + 1)) (z (k * 3 + 2)) bag b W ((hW.cell (p := ⟨b, 0, none⟩) hbl).trans hbr) (Nat.lt_of_lt_of_le hbl hW.size) hx)
        have HX := Lib.hid hx
        clear hx hbr
        go_wp2_with (go_at_fn 58; refine (hc.out _ (Below.refl _ _)).mono ?_; rintro e w2 ⟨rfl, hb2⟩)
        go_ret
        exact ⟨⟨k, rfl, ⟨fun _ => ⟨k, hkn, HX.out⟩, fun _ => hk0⟩⟩, hbw.trans (hb2.mono hbw.size)⟩
      · have hc := Lib.hid (fun W (hW : Below wr.heap.size wr W) => carry1_no (z (k * 3)) (z (k * 3 + 1)) (z (k * 3 + 2)) bag b W ((hW.cell (p := ⟨b, 0, none⟩) hbl).trans hbr) (Nat.lt_of_lt_of_le hbl hW.size) hx)
        have HX := Lib.hid hx
        clear hx hbr
        go_wp2_with (go_at_fn 58; refine (hc.out _ (Below.refl _ _)).mono ?_; rintro e w2 ⟨rfl, hb2⟩)
        go_roundw
        case rel => exact ⟨k + 1, by omega, by congr 1, hbw.trans (hb2.mono hbw.size), fun j hj => by
          by_cases e : j = k
          · subst e; exact HX.out
          · exact HN.out j (by omega)⟩
        case measure => simp only [intOf]; omega
    · obtain rfl : k = n := by omega
      go_wp2_with fail
      go_ret
      refine ⟨⟨-1, rfl, ⟨fun h => absurd h (by omega), ?_⟩⟩, hbw⟩
      rintro ⟨j, hj, hz⟩
      exact absurd hz (HN.out j hj)

theorem contains_any (n : Nat) (hn : n ≤ maxLen) (z : Nat → Int) (p : Option Addr) (c g o : Nat) (bag : Int) (b : Nat) (w : World) (hb : w.cell? ⟨b, 0, none⟩ = some (.int .i64 bag)) (hlt : b < w.heap.size) (h : FlatAt w 0 w.heap.size p g o (n * 3) (fun j => .int .i64 (z j)))
    (t : Bool) (ht : t = true ↔ hasB z n bag) :
    Calls Try.prog 57 #[.slice p n c, .func (.func 58) #[] #[.pointer (some ⟨b, 0, none⟩)]] w fun e w' => e = .returned (.bool t) ∧ Below w.heap.size w w' := by
  have hc := Lib.hid (index_any n hn z p c g o bag b w hb hlt h)
  clear h hb
  go_enter Try.func57, Try.ntmps57
  go_wp2_with fail
  refine hc.out.mono ?_
  rintro e w2 ⟨⟨i, rfl, hi⟩, hb2⟩
  have ht2 : t = true ↔ 0 ≤ i := ht.trans hi.symm
  clear ht hi
  cases t
  · have hi0 : ¬ (0 ≤ i) := fun h => by have := ht2.2 h; cases this
    clear ht2
    have hd : decide (0 ≤ i) = false := decide_eq_false hi0
    go_wp2
    go_ret
    exact ⟨rfl, hb2⟩
  · have hi0 : 0 ≤ i := ht2.1 rfl
    clear ht2
    go_wp2
    go_ret
    exact ⟨rfl, hb2⟩

theorem carries_any (n : Nat) (hn : n ≤ maxLen) (z : Nat → Int) (p : Option Addr) (c g o : Nat) (bag : Int) (w : World) (h : FlatAt w 0 w.heap.size p g o (n * 3) (fun j => .int .i64 (z j)))
    (t : Bool) (ht : t = true ↔ hasB z n bag) :
    Calls Try.prog 40 #[.slice p n c, .int .i64 bag] w fun e w' => e = .returned (.bool t) ∧ Below w.heap.size w w' := by
  have hw : Below w.heap.size w (w.alloc (.cells #[.int .i64 bag] 3)) := (Below.refl _ _).alloc (Nat.le_refl _) _
  have hc := Lib.hid (contains_any n hn z p c g o bag w.heap.size (w.alloc (.cells #[.int .i64 bag] 3)) (by rw [cell_of_row _ _ _ _ _ _ (heap_alloc_new w _)]; rfl) (by simp) ((h.below hw (Nat.le_refl _)).wide (Nat.le_refl _) (by simp)) t ht)
  clear h hw ht
  go_enter Try.func40, Try.ntmps40
  go_wp2_with fail
  refine hc.out.mono ?_
  rintro e w2 ⟨rfl, hb2⟩
  go_wp2
  go_ret
  exact ⟨rfl, below_via hb2 ((Below.refl _ _).alloc (Nat.le_refl _) _) (by simp)⟩

end Go.Proofs.Ytlklggkkkbamhaa
