/- What the program's canPack and parts return. -/
import Derived.Test.YtnkhjlpeeljelaaLimits
import Derived.Test.YtnkhjlpeeljelaaPiecesOkI
import Derived.Deep.LoopGhost
namespace Go.Proofs.Ytnkhjlpeeljelaa
open Go.RowKit
set_option linter.unusedVariables false

theorem liB_range {W C : Int} (h : liB W C = true) : (60 ≤ W ∧ W ≤ 2000) ∧ (1 ≤ C ∧ C ≤ 40) := by
  have hl' : inB 60 2000 W = true ∧ inB 1 40 C = true := by simpa [liB] using h
  exact ⟨inB_iff.1 hl'.1, inB_iff.1 hl'.2⟩
theorem cellsL2 {w : World} {k : Nat} {a b : Value} {t : TypeId} (h : w.heap[k]? = some (.cells #[a, b] t (0, 0))) : w.cell? ⟨k, 0, none⟩ = some a ∧ w.cell? ⟨k, 1, none⟩ = some b :=
  ⟨by simp [World.cell?, h], by simp [World.cell?, h]⟩

set_option maxRecDepth 100000 in
set_option maxHeartbeats 4000000 in
theorem iCanPack_any (W C : Int) (n : Nat) (hn : n ≤ maxLen) (z : Nat → Int) (p : Option Addr) (c g o : Nat) (w : World) (h : FlatAt w 0 w.heap.size p g o (n * 3) (fun j => .int .i64 (z j))) (hwf : ∀ j, j < n * 3 → (Lit.int .i64 (z j)).wf = true) :
    Calls Try.prog 62 #[.agg #[.int .i64 W, .int .i64 C], .slice p n c] w fun e w' => e = .returned (.bool (liB W C && decide (pcsOk n z))) ∧ Below w.heap.size w w' := by
  have hl := Lib.hid (fun V (hV : Below w.heap.size w V) => iLimitsOk_any W C V)
  have hp := Lib.hid (fun V (hV : Below w.heap.size w V) => iPiecesOk_any n hn z p c g o V ((h.below hV (Nat.le_refl _)).wide (Nat.le_refl _) hV.size) hwf)
  clear h hwf
  obtain ⟨l, hl0⟩ : ∃ l, l = liB W C := ⟨_, rfl⟩
  rw [← hl0] at hl ⊢
  clear hl0
  cases l
  · go_enter Try.func62, Try.ntmps62
    go_wp2_with (go_at_call 17; refine (hl.out _ ((Below.refl _ _).alloc (Nat.le_refl _) _)).mono ?_; rintro e w2 ⟨rfl, hb⟩)
    go_ret
    exact ⟨rfl, below_via hb ((Below.refl _ _).alloc (Nat.le_refl _) _) (by simp)⟩
  · have hT : (true && decide (pcsOk n z)) = decide (pcsOk n z) := Bool.true_and _
    obtain ⟨t, ht⟩ : ∃ t, t = decide (pcsOk n z) := ⟨_, rfl⟩
    rw [hT]
    rw [← ht] at hp ⊢
    clear hT ht
    go_enter Try.func62, Try.ntmps62
    go_wp2_with (first
      | (go_at_call 17; refine (hl.out _ ((Below.refl _ _).alloc (Nat.le_refl _) _)).mono ?_; rintro e w2 ⟨rfl, hb⟩; have hb2 : Below w.heap.size w w2 := below_via hb ((Below.refl _ _).alloc (Nat.le_refl _) _) (by simp))
      | (go_at_call 21; refine (hp.out _ (by first | exact hb2 | assumption)).mono ?_; rintro e w3 ⟨rfl, hb3⟩))
    go_ret
    exact ⟨rfl, hb2.trans (hb3.mono hb2.size)⟩

theorem iParts_any (x y : Int) (hx : 0 ≤ x) (hx2 : x ≤ 1000000) (hy : 1 ≤ y) (hy2 : y ≤ 2000) (w : World) :
    Calls Try.prog 63 #[.int .i64 x, .int .i64 y] w fun e w' => e = .returned (.int .i64 (prt x y)) ∧ w = w' := by
  have h1 : IntKind.i64.wrap (x + y) = x + y := IntWalk.i64_in _ (by omega)
  have h2 : IntKind.i64.wrap (x + y - 1) = x + y - 1 := IntWalk.i64_in _ (by omega)
  have h3 := prt_in hx hy
  unfold prt at h3 ⊢
  have h4 : IntKind.i64.wrap ((x + y - 1).tdiv y) = (x + y - 1).tdiv y := IntWalk.i64_in _ (by omega)
  have hy0 : (y == 0) = false := by simp; omega
  go_enter Try.func63, Try.ntmps63
  go_wp2_with fail
  go_ret
  exact ⟨rfl, rfl⟩

theorem iParts_same (x y : Int) (hx : 0 ≤ x) (hx2 : x ≤ 1000000) (hy : 1 ≤ y) (hy2 : y ≤ 2000) (w : World) :
    Calls Try.prog 63 #[.int .i64 x, .int .i64 y] w fun e w' => e = .returned (.int .i64 (prt x y)) ∧ w' = w := (iParts_any x y hx hx2 hy hy2 w).mono fun _ _ h => ⟨h.1, h.2.symm⟩

end Go.Proofs.Ytnkhjlpeeljelaa
