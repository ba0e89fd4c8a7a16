/- What the program's PiecesOk returns. -/
import Derived.Test.YtnkhjlpeeljelaaLoadPlain
import Derived.Test.YtnkhjlpeeljelaaBagsOk
import Derived.Test.YtnkhjlpeeljelaaIn
import Derived.Test.YtnkhjlpeeljelaaRowPiece
import Derived.RangeFuncBox
import Derived.Lib.OthersKept
namespace Go.Proofs.Ytnkhjlpeeljelaa
open Go.RowKit Go.Maps
set_option linter.unusedVariables false

theorem infoIntP : (Try.prog.info? 3).map (fun i => (i.zero, i.size, i.bytes)) = some (some (.int .i64 0), 1, 8) := by kernel_rfl
/-- The bags of the first k pieces. -/
def bgV (z : Nat → Int) (k : Nat) : List Value := (List.range k).map fun j => Value.int .i64 (z (j * 3))
theorem bgV_succ (z : Nat → Int) (k : Nat) : bgV z (k + 1) = bgV z k ++ [.int .i64 (z (k * 3))] := by unfold bgV; rw [List.range_succ, List.map_append]; rfl
theorem pcsOk_bags {n : Nat} {z : Nat → Int} (hn : n ≤ 40) (h : ∀ k, k < n → wcOk z k) : bgOk (fun j => z (j * 3)) n ↔ pcsOk n z := by
  unfold bgOk pcsOk dif
  exact ⟨fun a => ⟨hn, h, a.1, fun i hi k hk => a.2 k i hk hi⟩, fun a => ⟨a.2.2.1, fun i j hij hj => a.2.2.2 j hj i hij⟩⟩

set_option maxRecDepth 100000 in
set_option maxHeartbeats 8000000 in
theorem iPiecesOk_any (n : Nat) (hn : n ≤ maxLen) (z : Nat → Int) (p : Option Addr) (c g o : Nat) (w : World) (h : FlatAt w 0 w.heap.size p g o (n * 3) (fun j => .int .i64 (z j))) (hwf : ∀ j, j < n * 3 → (Lit.int .i64 (z j)).wf = true) :
    Calls Try.prog 21 #[.slice p n c] w fun e w' => e = .returned (.bool (decide (pcsOk n z))) ∧ Below w.heap.size w w' := by
  obtain ⟨i0, hi, hz0, hz1, hz2⟩ := info_parts infoIntP
  have ck := cellsPiece
  unfold maxLen at hn
  have HF := Lib.hid h
  have HW := Lib.hid hwf
  clear h hwf
  by_cases h3 : n ≤ 40
  rotate_left
  · have HN := Lib.hid (decide_eq_false (p := pcsOk n z) (fun h => h3 h.1))
    have hd : decide ((40 : Int) < (n : Int)) = true := decide_eq_true (by omega)
    go_enter Try.func21, Try.ntmps21
    go_wp2_with fail
    go_ret
    exact ⟨by rw [HN.out]; first | done | rfl, Below.refl _ _⟩
  have hd : decide ((40 : Int) < (n : Int)) = false := decide_eq_false (by omega)
  go_enter Try.func21, Try.ntmps21
  go_wp2_with fail
  go_loopw [3, 12] (fun v iv wr => ∃ (k : Nat) (po : Option Addr) (co : Nat), k ≤ n ∧ iv = .int .i64 (k : Int) ∧ v = .slice po k co ∧ wr.ownsRow w.heap.size 3 1 (.slice po k co) k (bgV z k) ∧ Hid (∀ j, j < k → wcOk z j) ∧ Hid (Below w.heap.size w wr)) (fun _ iv _ => n - (intOf iv).toNat)
  case atStart =>
    exact ⟨0, some ⟨w.heap.size, 0, none⟩, 0, by omega, rfl, rfl, ⟨rfl, .inr ⟨w.heap.size, 0, #[], rfl, Nat.le_refl _, heap_new _ _ _ rfl, Nat.le_refl _, by decide, by simp, by simp [bgV]⟩⟩, fun i hi => absurd hi (by omega), (Below.refl _ _).alloc (Nat.le_refl _) _⟩
  case round =>
    obtain ⟨k, po, co, hk, rfl, rfl, hown, HP, HB⟩ := hrel
    have hsz : w.heap.size ≤ wr.heap.size := HB.out.size
    by_cases hkn : k < n
    · obtain ⟨rfl, -, hg⟩ := HF.out.1 (by omega)
      obtain ⟨a0, a1, a2⟩ := HF.out.at3 HB.out (Nat.le_refl _) k (by omega)
      have hk0 : (0 : Int) ≤ (k : Int) := by omega
      have hkl : (k : Int) < (n : Int) := by omega
      have hwk : IntKind.i64.wrap ((k : Int) + 1) = (k : Int) + 1 := IntWalk.i64_in _ (by omega)
      have HNO := Lib.hid (fun (hh : ¬ wcOk z k) => decide_eq_false (p := pcsOk n z) (fun h => hh (h.2.1 k hkn)))
      have HYE := Lib.hid (fun (hh : wcOk z k) (i : Nat) (hi : i < k + 1) => show wcOk z i from by
        by_cases e : i = k
        · subst e; exact hh
        · exact HP.out i (by omega))
      have HXL := Lib.hid (bgV_succ z k)
      obtain ⟨x0, hx0⟩ : ∃ x, x = z (k * 3) := ⟨_, rfl⟩
      obtain ⟨x1, hx1⟩ : ∃ x, x = z (k * 3 + 1) := ⟨_, rfl⟩
      obtain ⟨x2, hx2⟩ : ∃ x, x = z (k * 3 + 2) := ⟨_, rfl⟩
      have hok : wcOk z k ↔ (1 ≤ x1 ∧ x1 ≤ 60) ∧ (0 ≤ x2 ∧ x2 ≤ 5) := by rw [hx1, hx2]; exact Iff.rfl
      rw [← hx0] at a0 HXL
      rw [← hx1] at a1
      rw [← hx2] at a2
      have HOK := Lib.hid hok
      clear hx0 hx1 hx2 hok HP
      rcases Bool.eq_false_or_eq_true (inB 1 60 x1) with b1 | b1
      rotate_left
      · have HN := Lib.hid (HNO.out (fun h => inB_no.1 b1 (HOK.out.1 h).1))
        have B1 := Lib.hid b1
        clear b1 HNO HYE HOK
        go_wp2_with (go_at_call 53; with_reducible refine (within_at B1.out _).mono ?_; rintro e w4 ⟨rfl, rfl⟩)
        go_ret
        exact ⟨by rw [HN.out]; first | done | rfl, HB.out.alloc (by omega) _⟩
      rcases Bool.eq_false_or_eq_true (inB 0 5 x2) with b2 | b2
      rotate_left
      · have HN := Lib.hid (HNO.out (fun h => inB_no.1 b2 (HOK.out.1 h).2))
        have B1 := Lib.hid b1
        have B2 := Lib.hid b2
        clear b1 b2 HNO HYE HOK
        go_wp2_with (first
          | (go_at_call 53; with_reducible refine (within_at B1.out _).mono ?_; rintro e w4 ⟨rfl, rfl⟩)
          | (go_at_call 53; with_reducible refine (within_at B2.out _).mono ?_; rintro e w4 ⟨rfl, rfl⟩))
        go_ret
        exact ⟨by rw [HN.out]; first | done | rfl, HB.out.alloc (by omega) _⟩
      have HT2 := Lib.hid (HYE.out (HOK.out.2 ⟨inB_iff.1 b1, inB_iff.1 b2⟩))
      have B1 := Lib.hid b1
      have B2 := Lib.hid b2
      clear b1 b2 HNO HYE HOK
      go_wp2_with (first
        | (go_at_call 53; with_reducible refine (within_at B1.out _).mono ?_; rintro e w4 ⟨rfl, rfl⟩)
        | (go_at_call 53; with_reducible refine (within_at B2.out _).mono ?_; rintro e w4 ⟨rfl, rfl⟩)
        | (at_builtin; refine wpList_append_own _ rfl _ _ 35 rfl w.heap.size 3 i0 (.int .i64 0) 1 8 Try.underlying35 hi hz0 hz1 hz2 rfl (by decide) _ k _ rfl ((hown.alloc _).alloc _) ⟨wr.heap.size + 1, 0, none⟩ 1 1 [.int .i64 x0] rfl rfl (by intro j u hj; match j, hj with | 0, hj => simp at hj; subst hj; simp [Addr.add]) (by intro u hu; simp at hu; rcases hu with rfl; rfl) (by unfold maxLen; omega) (by omega) (by simp; omega) ?_; intro v' w3 hown3 hgrow3 _))
      go_roundw
      case rel =>
        obtain ⟨g4, c4, rfl⟩ := ownsRow_succ hown3
        refine ⟨k + 1, some ⟨g4, 0, none⟩, c4, by omega, by congr 1, rfl, by rw [HXL.out]; exact hown3, HT2.out, ?_⟩
        exact Below.grown ((HB.out.alloc (by first | omega | (simp; omega)) _).alloc (by first | omega | (simp; omega)) _) hgrow3 (by first | omega | (simp; omega)) (fun j hj => (hown.lt j hj).1)
      case measure => simp only [intOf]; omega
    · obtain rfl : k = n := by omega
      obtain ⟨gq, hfq, -⟩ := FlatAt.of_own (f := fun j => .int .i64 (z (j * 3))) hown (fun j hj => by
        unfold bgV
        rw [List.getElem?_map, List.getElem?_range (show j < k by omega)]; rfl)
      rw [Nat.mul_one] at hfq
      have hbk := Lib.hid (iBags_any k (by omega) (fun j => z (j * 3)) po co gq 0 wr (hfq.wide (Nat.zero_le _) (Nat.le_refl _)) (fun j hj => HW.out (j * 3) (by omega)))
      have HE := (show decide (bgOk (fun j => z (j * 3)) k) = decide (pcsOk k z) from decide_eq_decide.2 (pcsOk_bags h3 HP.out))
      rw [HE] at hbk
      have HBW := Lib.hid HB.out
      clear hfq hown HE
      go_wp2_with (go_at_call 55; refine hbk.out.mono ?_; rintro e w2 ⟨rfl, hb⟩)
      go_ret
      exact ⟨rfl, HBW.out.trans (hb.mono HBW.out.size)⟩

theorem iPiecesOk_v (n : Nat) (hn : n ≤ maxLen) (z : Nat → Int) (v : Value) (w : World) (h : Rd w v n (n * 3) z) (hwf : ∀ j, j < n * 3 → (Lit.int .i64 (z j)).wf = true) :
    Calls Try.prog 21 #[v] w fun e w' => e = .returned (.bool (decide (pcsOk n z))) ∧ Below w.heap.size w w' := by
  obtain ⟨p, c, g, o, rfl, -, h⟩ := h
  exact iPiecesOk_any n hn z p c g o w h hwf

end Go.Proofs.Ytnkhjlpeeljelaa
