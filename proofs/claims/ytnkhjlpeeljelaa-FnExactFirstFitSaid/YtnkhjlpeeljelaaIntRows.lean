/- The laws' own functions over slices of numbers: marks. -/
import Derived.Test.YtnkhjlpeeljelaaIntEq
import Derived.Test.YtnkhjlpeeljelaaSmall
import Derived.Test.YtnkhjlpeeljelaaChecked
import Derived.Deep.LoopGhost
import Derived.BigQuiet
import Derived.Deep.QuietTactic
import Derived.Deep.RegionWith
import Derived.OwnWalk
import Derived.Laws.MakeOwn
import Derived.IntWalk
namespace Go.Proofs.Ytnkhjlpeeljelaa
open Go.RowKit

set_option maxRecDepth 100000 in
set_option maxHeartbeats 1000000 in
theorem heldIntS_any (k0 n : Nat) (hn : n ≤ 1048576) (hk9 : k0 ≤ 1099511627776) (p : Option Addr) (c g o : Nat) (w : World) (h : FlatAt w 0 w.heap.size p g o n (fun j => .int .i64 ((k0 + j : Nat) : Int))) :
    Calls Try.prog 78 #[.slice p n c, .int .i64 (k0 : Int)] w fun e w' => e = .returned (.int .i64 ((k0 + n : Nat) : Int)) ∧ Below w.heap.size w w' := by
  have H := Lib.hid h
  clear h
  go_enter Try.func78, Try.ntmps78
  go_wp2_with fail
  go_loopw [1, 5] (fun m v wr => ∃ k : Nat, k ≤ n ∧ v = .int .i64 (k : Int) ∧ m = .int .i64 ((k0 + k : Nat) : Int) ∧ Below w.heap.size w wr) (fun _ v _ => n - (intOf v).toNat)
  case atStart => exact ⟨0, by omega, rfl, by congr 1, Below.refl _ _⟩
  case round =>
    obtain ⟨k, hk, rfl, rfl, hbw⟩ := hrel
    by_cases hkn : k < n
    · obtain ⟨rfl, -, hg⟩ := H.out.1 (by omega)
      have a0 := (hbw.cell (p := ⟨g, o + k, none⟩) hg).trans (H.out.int k (by omega))
      obtain ⟨y, hy⟩ : ∃ y : Nat, y = k0 + k := ⟨_, rfl⟩
      rw [← hy] at a0 ⊢
      have hy9 : y ≤ 1099611627776 := by omega
      have HY := Lib.hid hy
      clear hy
      have hk0 : (0 : Int) ≤ (k : Int) := by omega
      have hkl : (k : Int) < (n : Int) := by omega
      go_wp2_with fail
      go_roundw
      case rel => exact ⟨k + 1, by omega, by congr 1, by congr 1; have := HY.out; omega, hbw⟩
      case measure => simp only [intOf]; omega
    · obtain rfl : k = n := by omega
      go_wp2_with fail
      go_ret
      exact ⟨rfl, hbw⟩

set_option maxRecDepth 100000 in
set_option maxHeartbeats 1000000 in
theorem markIntS_any (k0 n : Nat) (hn : n ≤ 1048576) (hk9 : k0 ≤ 1099511627776) (f : Nat → Value) (lo hi : Nat) (p : Option Addr) (c g o : Nat) (w : World) (h : FlatAt w lo hi p g o n f) (hf : FreeAt w g o n) :
    Calls Try.prog 33 #[.slice p n c, .int .i64 (k0 : Int)] w fun e w' => e = .returned (.int .i64 ((k0 + n : Nat) : Int)) ∧ FlatAt w' lo hi p g o n (fun j => .int .i64 ((k0 + j : Nat) : Int)) ∧ FreeAt w' g o n ∧ w.grownBy w' (some g) := by
  have H := Lib.hid h.1
  have H1 := Lib.hid h
  have H2 := Lib.hid hf
  clear h hf
  go_enter Try.func33, Try.ntmps33
  go_wp2_with fail
  go_loopw [1, 5] (fun m v wr => ∃ k : Nat, k ≤ n ∧ v = .int .i64 (k : Int) ∧ m = .int .i64 ((k0 + k : Nat) : Int) ∧ FlatAt wr lo hi p g o n (fun j => if j < k then .int .i64 ((k0 + j : Nat) : Int) else f j) ∧ FreeAt wr g o n ∧ w.grownBy wr (some g)) (fun _ v _ => n - (intOf v).toNat)
  case atStart => exact ⟨0, by omega, rfl, by congr 1, H1.out.congr (fun j hj => by rw [if_neg (by omega)]), H2.out, ⟨rfl, rfl, rfl, Nat.le_refl _, fun _ _ _ => rfl⟩⟩
  case round =>
    obtain ⟨k, hk, rfl, rfl, h1, h2, hgr⟩ := hrel
    by_cases hkn : k < n
    · obtain ⟨rfl, -, hg⟩ := H.out (by omega)
      obtain ⟨u0, a0⟩ : ∃ u, wr.cell? ⟨g, o + k, none⟩ = some u := ⟨_, h1.2 k (by omega)⟩
      have f0 : wr.frozen? ⟨g, o + k, none⟩ = false := h2 k (by omega)
      obtain ⟨y, hy⟩ : ∃ y : Nat, y = k0 + k := ⟨_, rfl⟩
      rw [← hy]
      have s0 := h1.set (u := .int .i64 (y : Int)) k (by omega)
      have sf : FreeAt (wr.setCell ⟨g, o + k, none⟩ (.int .i64 (y : Int))) g o n := h2.set _ _
      have sg : w.grownBy (wr.setCell ⟨g, o + k, none⟩ (.int .i64 (y : Int))) (some g) := grown_setCell hgr (.inl rfl) _
      have hy9 : y ≤ 1099611627776 := by omega
      have HY := Lib.hid hy
      have HS := Lib.hid s0
      have HF := Lib.hid sf
      have HG := Lib.hid sg
      clear hy h1 h2 hgr sf sg s0
      have hk0 : (0 : Int) ≤ (k : Int) := by omega
      have hkl : (k : Int) < (n : Int) := by omega
      go_wp2_with fail
      go_roundw
      case rel =>
        refine ⟨k + 1, by omega, by congr 1, by congr 1; have := HY.out; omega, HS.out.congr ?_, HF.out, HG.out⟩
        intro j hj
        show (if _ then _ else _) = _
        by_cases e0 : j = k
        · subst e0; rw [if_pos rfl, if_pos (by omega)]; congr 1; have := HY.out; omega
        rw [if_neg e0]
        by_cases e : j < k
        · rw [if_pos e, if_pos (by omega)]
        · rw [if_neg e, if_neg (by omega)]
      case measure => simp only [intOf]; omega
    · obtain rfl : k = n := by omega
      have H1 := Lib.hid h1
      have H2 := Lib.hid h2
      have HG := Lib.hid hgr
      clear h1 h2 hgr
      go_wp2_with fail
      go_ret
      exact ⟨rfl, H1.out.congr (fun j hj => if_pos hj), H2.out, HG.out⟩

theorem markIntS_touch (k0 n : Nat) (hn : n ≤ 1048576) (hk9 : k0 ≤ 1099511627776) (f : Nat → Value) (lo hi : Nat) (p : Option Addr) (c g o : Nat) (w : World) (h : FlatAt w lo hi p g o n f) (hf : FreeAt w g o n) :
    Calls Try.prog 33 #[.slice p n c, .int .i64 (k0 : Int)] w fun e w' => e = .returned (.int .i64 ((k0 + n : Nat) : Int)) ∧ FlatAt w' lo hi p g o n (fun j => .int .i64 ((k0 + j : Nat) : Int)) ∧ FreeAt w' g o n ∧ Touch lo hi w w' := by
  rcases Nat.eq_zero_or_pos n with h0 | h0
  · subst h0
    refine (markIntS_any k0 0 hn hk9 f lo hi p c w.heap.size o w (FlatAt.zero _ _ _ _ _ _ _) (fun j hj => absurd hj (by omega))).mono ?_
    rintro e w' ⟨he, -, -, hg⟩
    exact ⟨he, FlatAt.zero _ _ _ _ _ _ _, fun j hj => absurd hj (by omega), Touch.of_grown hg (fun k hk _ he => by injection he with he; omega)⟩
  · refine (markIntS_any k0 n hn hk9 f lo hi p c g o w h hf).mono ?_
    rintro e w' ⟨he, h1, h2, hg⟩
    exact ⟨he, h1, h2, Touch.of_grown hg (fun k hk hr he => by
      injection he with he
      have := h.1 h0
      omega)⟩

theorem heldIntS_v (k0 n : Nat) (hn : n ≤ 1048576) (hk9 : k0 ≤ 1099511627776) (v : Value) (w : World) (h : Rd w v n n (fun j => ((k0 + j : Nat) : Int))) :
    Calls Try.prog 78 #[v, .int .i64 (k0 : Int)] w fun e w' => e = .returned (.int .i64 ((k0 + n : Nat) : Int)) ∧ Below w.heap.size w w' := by
  obtain ⟨p, c, g, o, rfl, -, h⟩ := h
  exact heldIntS_any k0 n hn hk9 p c g o w h
theorem markIntS_v (k0 n : Nat) (hn : n ≤ 1048576) (hk9 : k0 ≤ 1099511627776) (z : Nat → Int) (lo hi : Nat) (v : Value) (w : World) (h : Own w lo hi v n n z) :
    Calls Try.prog 33 #[v, .int .i64 (k0 : Int)] w fun e w' => e = .returned (.int .i64 ((k0 + n : Nat) : Int)) ∧ Own w' lo hi v n n (fun j => ((k0 + j : Nat) : Int)) ∧ Touch lo hi w w' := by
  obtain ⟨p, c, g, o, rfl, h1, h, hf⟩ := h
  refine (markIntS_touch k0 n hn hk9 _ lo hi p c g o w h hf).mono ?_
  rintro e w' ⟨he, a, b, t⟩
  exact ⟨he, ⟨p, c, g, o, rfl, h1, a, b⟩, t⟩

end Go.Proofs.Ytnkhjlpeeljelaa
