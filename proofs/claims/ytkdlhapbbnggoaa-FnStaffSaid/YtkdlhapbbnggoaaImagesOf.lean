/- The images that the program chooses. -/
import Derived.Test.YtkdlhapbbnggoaaPickRow
import Derived.Test.YtkdlhapbbnggoaaRowImage
import Derived.Laws.OwnMore
namespace Go.Proofs.Ytkdlhapbbnggoaa
open Go.RowKit
set_option linter.unusedVariables false

set_option maxRecDepth 100000 in
set_option maxHeartbeats 4000000 in
theorem imagesOf_v (n : Nat) (hn : n ≤ 16) (z : Nat → Int) (set : Nat) (hset : set < 1000000) (v : Value) (w : World) (h : Rd w v n (n * 2) z) :
    Calls Try.prog 63 #[v, .int .i64 (set : Int)] w fun e w' => ∃ v', e = .returned v' ∧ Own w' w.heap.size w'.heap.size v' (pkN set n) (pkN set n * 2) (pkZ set z n) ∧ Below w.heap.size w w' := by
  obtain ⟨i0, hi, hz0, hz1, hz2⟩ := info_parts infoImage
  obtain ⟨p, c, g, o, rfl, hnc, hfl⟩ := h
  have HF := Lib.hid hfl
  have c3 := cellsImage
  clear hfl
  go_enter Try.func63, Try.ntmps63
  go_wp2_with fail
  go_loopw [5, 11] (fun ov v wr => ∃ k q : Nat, k ≤ n ∧ v = .int .i64 (k : Int) ∧ Hid (q = pkN set k) ∧ wr.ownsRow w.heap.size 65 2 ov q (pkC set z k) ∧ Below w.heap.size w wr) (fun _ v _ => n - (intOf v).toNat)
  case atStart => exact ⟨0, 0, by omega, rfl, rfl, ⟨rfl, .inr ⟨w.heap.size, 0, #[], rfl, Nat.le_refl _, heap_alloc_new w _, Nat.le_refl _, by unfold maxLen; omega, rfl, rfl⟩⟩, (Below.refl _ _).alloc (Nat.le_refl _) _⟩
  case round =>
    obtain ⟨k, q, hk, rfl, HQ, hown, hbw⟩ := hrel
    by_cases hkn : k < n
    · obtain ⟨rfl, -, hg⟩ := HF.out.1 (by omega)
      obtain ⟨a0, a1⟩ := HF.out.at2 hbw (Nat.le_refl _) k (by omega)
      have hk0 : (0 : Int) ≤ (k : Int) := by omega
      have hkl : (k : Int) < (n : Int) := by omega
      have hk9 : (k : Int) ≤ 15 := by omega
      have hq16 : q ≤ 16 := by have := HQ.out; have := pkN_le (set := set) k; omega
      obtain ⟨x0, hx0⟩ : ∃ x, x = z (k * 2) := ⟨_, rfl⟩
      obtain ⟨x1, hx1⟩ : ∃ x, x = z (k * 2 + 1) := ⟨_, rfl⟩
      rw [← hx0] at a0
      rw [← hx1] at a1
      by_cases hb : set / 2 ^ k % 2 = 1
      · have hbit := bit_yes hset hb
        have HC : Hid (pkC set z k ++ [.int .i64 x0, .int .i64 x1] = pkC set z (k + 1)) := by rw [pkC_yes hb, hx0, hx1]; exact rfl
        have HQ1 : Hid (q + 1 = pkN set (k + 1)) := by rw [pkN_yes hb, ← HQ.out]; exact rfl
        have HOWN := Lib.hid hown
        have HBW := Lib.hid hbw
        clear hb hx0 hx1 hown hbw
        go_wp2_with (at_builtin; refine wpList_append_own _ rfl _ _ 49 rfl w.heap.size 65 i0 (.agg #[.int .i64 0, .int .i64 0]) 2 16 Try.underlying49 hi hz0 hz1 hz2 rfl (by decide) _ q _ rfl ((HOWN.out.alloc _).alloc _) ⟨wr.heap.size + 1, 0, none⟩ 1 1 [.int .i64 x0, .int .i64 x1] rfl rfl (by intro j u hj; match j, hj with | 0, hj => simp at hj; subst hj; simp [Addr.add] | 1, hj => simp at hj; subst hj; simp [Addr.add]) (by intro u hu; simp at hu; rcases hu with rfl | rfl <;> rfl) (by unfold maxLen; omega) (by omega) (by have := HBW.out.size; simp; omega) ?_; intro v' w3 hown3 hgrow3 _)
        have hbw3 : Below w.heap.size w w3 := ((HBW.out.alloc HBW.out.size _).alloc (by have := HBW.out.size; simp; omega) _).grown hgrow3 (by have := HBW.out.size; simp; omega) (fun j hj => (HOWN.out.lt j hj).1)
        rw [HC.out] at hown3
        have HO3 := Lib.hid hown3
        clear hown3 hgrow3
        go_wp2_with fail
        go_roundw
        case rel => exact ⟨k + 1, q + 1, by omega, by congr 1, HQ1.out, HO3.out, hbw3⟩
        case measure => simp only [intOf]; omega
      · have hbit := bit_no hset hb
        have HC : Hid (pkC set z k = pkC set z (k + 1)) := (pkC_no hb).symm
        have HQ1 : Hid (q = pkN set (k + 1)) := by rw [pkN_no hb, ← HQ.out]; exact rfl
        have HOWN := Lib.hid hown
        have HBW := Lib.hid hbw
        clear hb hx0 hx1 hown hbw
        go_wp2_with fail
        go_roundw
        case rel => exact ⟨k + 1, q, by omega, by congr 1, HQ1.out, by rw [← HC.out]; exact HOWN.out.alloc _, HBW.out.alloc HBW.out.size _⟩
        case measure => simp only [intOf]; omega
    · obtain rfl : k = n := by omega
      have HOWN := Lib.hid hown
      clear hown
      go_wp2_with fail
      go_ret
      exact ⟨_, rfl, by rw [← HQ.out]; exact Own.of_own HOWN.out (fun j hj => pkC_at j (by rw [← HQ.out]; exact hj)), hbw⟩

end Go.Proofs.Ytkdlhapbbnggoaa
