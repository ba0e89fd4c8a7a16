/- The opening of a lane: the program's openingIn. -/
import Derived.Test.YtokhkcebdbopcaaOpenPlain
import Derived.Test.YtokhkcebdbopcaaFirstKept
namespace Go.Proofs.Ytokhkcebdbopcaa
open Go.RowKit
set_option linter.unusedVariables false

set_option maxRecDepth 100000 in
set_option maxHeartbeats 4000000 in
theorem iOpenIn_any (m : Nat) (hm : m ≤ 1048576) (x : Nat → Int) (hx : tmOk x m) (p : Option Addr) (c g o : Nat) (i t : Int) (w : World) (h : FlatAt w 0 w.heap.size p g o (m * 2) (fun j => .int .i64 (x j))) :
    Calls Try.prog 87 #[.slice p m c, .int .i64 i, .int .i64 t] w fun e w' => e = .returned (.agg #[.int .i64 i, .int .i64 (opK m (lst x m) t), .int .i64 (opC m (lst x m) t)]) ∧ Below w.heap.size w w' := by
  have ck := cellsKeptF
  have co := cellsOpenF
  have hF := Lib.hid (fun W (hW : Below w.heap.size w W) => iFirstKept_any m hm x (fun j hj => (hx j hj).2) p c g o W ((h.below hW (Nat.le_refl _)).wide (Nat.zero_le _) hW.size))
  obtain ⟨lb0, lb1, lb2⟩ := lst_bound hx
  have hl := nxR_lst (z := x) (m := m) (fun j hj => (hx j hj).2)
  obtain ⟨l, hll⟩ : ∃ l, l = lst x m := ⟨_, rfl⟩
  rw [← hll] at lb0 lb1 lb2 hl ⊢
  obtain ⟨K, hK⟩ : ∃ K, K = opK m l t := ⟨_, rfl⟩
  obtain ⟨C, hC⟩ : ∃ C, C = opC m l t := ⟨_, rfl⟩
  rw [← hK, ← hC]
  have HL := Lib.hid hl
  clear h hx hl hll
  have hBe : ∀ W4 : World, Below (w.heap.size + 1) (w.alloc (.cells #[.int .i64 0, .int .i64 0, .int .i64 0] 66)) W4 → Hid (W4.cell? ⟨w.heap.size, 0, none⟩ = some (.int .i64 0) ∧ W4.cell? ⟨w.heap.size, 1, none⟩ = some (.int .i64 0) ∧ W4.cell? ⟨w.heap.size, 2, none⟩ = some (.int .i64 0) ∧ W4.frozen? ⟨w.heap.size, 0, none⟩ = false ∧ W4.frozen? ⟨w.heap.size, 1, none⟩ = false ∧ W4.frozen? ⟨w.heap.size, 2, none⟩ = false ∧ Below w.heap.size w W4) := fun W4 h4 => by
    obtain ⟨z0, z1, z2, z3, z4, z5⟩ := cellsO3 ((h4.block w.heap.size (by omega)).trans (heap_new _ _ _ rfl))
    exact ⟨z0, z1, z2, z3, z4, z5, ((Below.refl _ _).alloc (Nat.le_refl _) _).trans (h4.mono (by omega))⟩
  have HBE := Lib.hid hBe
  clear hBe
  by_cases h0 : m = 0
  · subst h0
    obtain rfl : K = 1 := by rw [hK]; exact if_pos rfl
    obtain rfl : C = 0 := by rw [hC]; exact if_pos rfl
    rw [show decide (0 < 0) = false from rfl] at hF
    clear hK hC lb0 lb1 lb2
    go_enter Try.func87, Try.ntmps87
    go_wp2_with (go_at_call 70; refine (hF.out _ ((Below.refl _ _).alloc (Nat.le_refl _) _)).mono ?_; rintro e w4 ⟨⟨b, u, rfl, hf⟩, hb4⟩; obtain ⟨z0, z1, z2, z3, z4, z5, hBW⟩ := (HBE.out w4 (hb4.mono (by simp))).out; have hs4 : w.heap.size < w4.heap.size := (by have := hb4.size; simp at this; omega); have hne : w.heap.size ≠ w4.heap.size := (by omega); clear hb4 hf)
    refine bodyPost_ret (v := .agg #[.int .i64 i, .int .i64 1, .int .i64 0]) (by simp [results, Try.results87, go_sem, z0, z1, z2, hne, hs4]) rfl ⟨rfl, ?_⟩
    exact (Below.setCell (Below.setCell (Below.setCell hBW (Nat.le_refl _) _) (Nat.le_refl _) _) (Nat.le_refl _) _).alloc (by simp [World.setCell]; omega) _
  · have hK2 : opK m l t = if t ≤ l then 0 else 2 := if_neg h0
    have hC2 : opC m l t = if t ≤ l then l else -l := if_neg h0
    have hmd : decide (0 < m) = true := decide_eq_true (by omega)
    rw [hmd] at hF
    have HT := Lib.hid (fun (b u : Int) (hf : FkIs x m b u) => show u = l from by
      have := hf.2 (by omega)
      rw [← HL.out, ← this])
    have hwn : IntKind.i64.wrap (-l) = -l := IntWalk.i64_in _ (by omega)
    by_cases htl : t ≤ l
    · obtain rfl : K = 0 := by rw [hK, hK2, if_pos htl]
      obtain rfl : C = l := by rw [hC, hC2, if_pos htl]
      have hd : decide (t ≤ C) = true := decide_eq_true htl
      clear hK hC hK2 hC2 lb0 lb1 lb2 hmd htl h0
      go_enter Try.func87, Try.ntmps87
      go_wp2_with (go_at_call 70; refine (hF.out _ ((Below.refl _ _).alloc (Nat.le_refl _) _)).mono ?_; rintro e w4 ⟨⟨b, u, rfl, hf⟩, hb4⟩; obtain ⟨z0, z1, z2, z3, z4, z5, hBW⟩ := (HBE.out w4 (hb4.mono (by simp))).out; have hs4 : w.heap.size < w4.heap.size := (by have := hb4.size; simp at this; omega); have hne : w.heap.size ≠ w4.heap.size := (by omega); obtain rfl := HT.out b u hf; clear hb4 hf)
      refine bodyPost_ret (v := .agg #[.int .i64 i, .int .i64 0, .int .i64 u]) (by simp [results, Try.results87, go_sem, z0, z1, z2, hne, hs4]) rfl ⟨rfl, ?_⟩
      exact (Below.setCell (Below.setCell (Below.setCell hBW (Nat.le_refl _) _) (Nat.le_refl _) _) (Nat.le_refl _) _).alloc (by simp [World.setCell]; omega) _
    · obtain rfl : K = 2 := by rw [hK, hK2, if_neg htl]
      obtain rfl : C = -l := by rw [hC, hC2, if_neg htl]
      have hd : decide (t ≤ l) = false := decide_eq_false htl
      clear hK hC hK2 hC2 lb0 lb1 lb2 hmd htl h0
      go_enter Try.func87, Try.ntmps87
      go_wp2_with (go_at_call 70; refine (hF.out _ ((Below.refl _ _).alloc (Nat.le_refl _) _)).mono ?_; rintro e w4 ⟨⟨b, u, rfl, hf⟩, hb4⟩; obtain ⟨z0, z1, z2, z3, z4, z5, hBW⟩ := (HBE.out w4 (hb4.mono (by simp))).out; have hs4 : w.heap.size < w4.heap.size := (by have := hb4.size; simp at this; omega); have hne : w.heap.size ≠ w4.heap.size := (by omega); obtain rfl := HT.out b u hf; clear hb4 hf)
      refine bodyPost_ret (v := .agg #[.int .i64 i, .int .i64 2, .int .i64 (-u)]) (by simp [results, Try.results87, go_sem, z0, z1, z2, hne, hs4]) rfl ⟨rfl, ?_⟩
      exact (Below.setCell (Below.setCell (Below.setCell hBW (Nat.le_refl _) _) (Nat.le_refl _) _) (Nat.le_refl _) _).alloc (by simp [World.setCell]; omega) _

end Go.Proofs.Ytokhkcebdbopcaa
