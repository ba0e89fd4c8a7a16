/- What the program's chutesOk returns. -/
import Derived.Test.YtokhkcebdbopcabBagsOk
import Derived.Test.YtokhkcebdbopcabIn
import Derived.RangeFuncBox
import Derived.Lib.OthersKept
namespace Go.Proofs.Ytokhkcebdbopcab
open Go.RowKit Go.Maps
set_option linter.unusedVariables false

theorem infoIntC : (Try.prog.info? 3).map (fun i => (i.zero, i.size, i.bytes)) = some (some (.int .i64 0), 1, 8) := by kernel_rfl
theorem cellsC3 {w : World} {k : Nat} {a b c : Value} {t : TypeId} (h : w.heap[k]? = some (.cells #[a, b, c] t (0, 0))) :
    w.cell? ⟨k, 0, none⟩ = some a ∧ w.cell? ⟨k, 1, none⟩ = some b ∧ w.cell? ⟨k, 2, none⟩ = some c ∧ w.frozen? ⟨k, 0, none⟩ = false ∧ w.frozen? ⟨k, 1, none⟩ = false ∧ w.frozen? ⟨k, 2, none⟩ = false :=
  ⟨by simp [World.cell?, h], by simp [World.cell?, h], by simp [World.cell?, h], by simp [World.frozen?, h], by simp [World.frozen?, h], by simp [World.frozen?, h]⟩

/-- One chute: its place, its room, and no more bags than room. -/
def chO (a : Nat → Int) (nn : Nat → Nat) (T : Int) (i : Nat) : Prop := (0 ≤ a (i * 3) ∧ a (i * 3) ≤ T - 1) ∧ (0 ≤ a (i * 3 + 1) ∧ a (i * 3 + 1) ≤ 40) ∧ (nn i : Int) ≤ a (i * 3 + 1)
/-- The chutes are valid at T trays. -/
def chP (a : Nat → Int) (nn : Nat → Nat) (n : Nat) (T : Int) : Prop := n ≤ 8 ∧ (∀ i, i < n → chO a nn T i) ∧ dif (fun i => a (i * 3)) n
instance (a : Nat → Int) (nn : Nat → Nat) (n : Nat) (T : Int) : Decidable (chP a nn n T) := by
  unfold chP chO; exact inferInstance

set_option maxRecDepth 100000 in
set_option maxHeartbeats 8000000 in
theorem iChutes_any (n : Nat) (hn : n ≤ 1099511627776) (a : Nat → Int) (s : Nat → Value) (nn : Nat → Nat) (hs : ∀ i, i < n → ∃ pp cc, s i = .slice pp (nn i) cc) (p : Option Addr) (c g o : Nat) (T : Int) (hT : 0 ≤ T ∧ T ≤ 1099511627776) (w : World)
    (h : FlatAt w 0 w.heap.size p g o (n * 3) (fun j => if j % 3 = 2 then s (j / 3) else .int .i64 (a j))) (hwf : ∀ j, j < n → (Lit.int .i64 (a (j * 3))).wf = true) :
    Calls Try.prog 60 #[.slice p n c, .int .i64 T] w fun e w' => e = .returned (.bool (decide (chP a nn n T))) ∧ Below w.heap.size w w' := by
  obtain ⟨i0, hi, hz0, hz1, hz2⟩ := info_parts infoIntC
  have H := Lib.hid h
  have HW := Lib.hid hwf
  have HS := Lib.hid hs
  have hwT : IntKind.i64.wrap (T - 1) = T - 1 := IntWalk.i64_in _ (by omega)
  clear h hwf hs
  by_cases hn8 : n ≤ 8
  rotate_left
  · have hd1 : decide ((8 : Int) < (n : Int)) = true := decide_eq_true (by omega)
    have HN := Lib.hid (decide_eq_false (p := chP a nn n T) (fun h => hn8 h.1))
    go_enter Try.func60, Try.ntmps60
    go_wp2_with fail
    go_ret
    exact ⟨by rw [HN.out]; first | done | rfl, Below.refl _ _⟩
  have hd1 : decide ((8 : Int) < (n : Int)) = false := decide_eq_false (by omega)
  go_enter Try.func60, Try.ntmps60
  go_wp2_with fail
  go_loopw [5, 14] (fun v iv wr => ∃ (k : Nat) (po : Option Addr) (co : Nat), k ≤ n ∧ iv = .int .i64 (k : Int) ∧ v = .slice po k co ∧ wr.ownsRow w.heap.size 3 1 (.slice po k co) k ((List.range k).map (fun j => .int .i64 (a (j * 3)))) ∧ Hid (∀ i, i < k → chO a nn T i) ∧ Hid (Below w.heap.size w wr)) (fun _ iv _ => n - (intOf iv).toNat)
  case atStart =>
    exact ⟨0, some ⟨w.heap.size, 0, none⟩, 0, by omega, rfl, rfl, ⟨rfl, .inr ⟨w.heap.size, 0, #[], rfl, Nat.le_refl _, heap_new _ _ _ rfl, Nat.le_refl _, by decide, by simp, by simp⟩⟩, fun i hi => absurd hi (by omega), (Below.refl _ _).alloc (Nat.le_refl _) _⟩
  case round =>
    obtain ⟨k, po, co, hk, rfl, rfl, hown, HP, HB⟩ := hrel
    by_cases hkn : k < n
    · obtain ⟨rfl, -, hg⟩ := H.out.1 (by omega)
      obtain ⟨pp, cc, hsk⟩ := HS.out k hkn
      have hgr : g < wr.heap.size := by have := HB.out.size; omega
      have a0 : wr.cell? ⟨g, o + k * 3, none⟩ = some (.int .i64 (a (k * 3))) := (HB.out.cell (p := ⟨g, o + k * 3, none⟩) hg).trans ((H.out.2 (k * 3) (by omega)).trans (congrArg some (if_neg (by omega))))
      have a1 : wr.cell? ⟨g, o + k * 3 + 1, none⟩ = some (.int .i64 (a (k * 3 + 1))) := (HB.out.cell (p := ⟨g, o + k * 3 + 1, none⟩) hg).trans ((H.out.2 (k * 3 + 1) (by omega)).trans (congrArg some (if_neg (by omega))))
      have a2 : wr.cell? ⟨g, o + k * 3 + 2, none⟩ = some (.slice pp (nn k) cc) := (HB.out.cell (p := ⟨g, o + k * 3 + 2, none⟩) hg).trans ((H.out.2 (k * 3 + 2) (by omega)).trans ((congrArg some (if_pos (by omega))).trans (by rw [show (k * 3 + 2) / 3 = k by omega, hsk])))
      have hk0 : (0 : Int) ≤ (k : Int) := by omega
      have hkl : (k : Int) < (n : Int) := by omega
      have hwk : IntKind.i64.wrap ((k : Int) + 1) = (k : Int) + 1 := IntWalk.i64_in _ (by omega)
      have HXL := Lib.hid (show (List.range (k + 1)).map (fun j => Value.int .i64 (a (j * 3))) = (List.range k).map (fun j => .int .i64 (a (j * 3))) ++ [.int .i64 (a (k * 3))] by rw [List.range_succ, List.map_append]; rfl)
      obtain ⟨x0, hx0⟩ : ∃ x, x = a (k * 3) := ⟨_, rfl⟩
      obtain ⟨x1, hx1⟩ : ∃ x, x = a (k * 3 + 1) := ⟨_, rfl⟩
      obtain ⟨m, hm⟩ : ∃ m, m = nn k := ⟨_, rfl⟩
      rw [← hx0] at a0 HXL
      rw [← hx1] at a1
      rw [← hm] at a2
      have HXP := Lib.hid (show chO a nn T k ↔ (0 ≤ x0 ∧ x0 ≤ T - 1) ∧ (0 ≤ x1 ∧ x1 ≤ 40) ∧ (m : Int) ≤ x1 from by rw [hx0, hx1, hm]; exact Iff.rfl)
      clear hx0 hx1 hm hsk
      by_cases h1 : 0 ≤ x0 ∧ x0 ≤ T - 1
      rotate_left
      · have HI := Lib.hid (inB_no.2 h1)
        have HN := Lib.hid (decide_eq_false (p := chP a nn n T) (fun h => h1 (HXP.out.1 (h.2.1 k hkn)).1))
        clear h1 HXP
        go_wp2_with (go_at_call 57; refine (within_at HI.out _).mono ?_; rintro e w4 ⟨rfl, rfl⟩)
        go_ret
        exact ⟨by rw [HN.out]; first | done | rfl, HB.out.alloc (by have := HB.out.size; omega) _⟩
      have HI := Lib.hid (inB_iff.2 h1)
      by_cases h2 : 0 ≤ x1 ∧ x1 ≤ 40
      rotate_left
      · have HJ := Lib.hid (inB_no.2 h2)
        have HN := Lib.hid (decide_eq_false (p := chP a nn n T) (fun h => h2 (HXP.out.1 (h.2.1 k hkn)).2.1))
        clear h1 h2 HXP
        go_wp2_with (go_at_call 57; (first | (with_reducible refine (within_at HI.out _).mono ?_) | (with_reducible refine (within_at HJ.out _).mono ?_)); rintro e w4 ⟨rfl, rfl⟩)
        go_ret
        exact ⟨by rw [HN.out]; first | done | rfl, HB.out.alloc (by have := HB.out.size; omega) _⟩
      have HJ := Lib.hid (inB_iff.2 h2)
      by_cases h3 : (m : Int) ≤ x1
      rotate_left
      · have hd3 : decide (x1 < (m : Int)) = true := decide_eq_true (by omega)
        have HN := Lib.hid (decide_eq_false (p := chP a nn n T) (fun h => h3 (HXP.out.1 (h.2.1 k hkn)).2.2))
        clear h1 h2 h3 HXP
        go_wp2_with (go_at_call 57; (first | (with_reducible refine (within_at HI.out _).mono ?_) | (with_reducible refine (within_at HJ.out _).mono ?_)); rintro e w4 ⟨rfl, rfl⟩)
        go_ret
        exact ⟨by rw [HN.out]; first | done | rfl, HB.out.alloc (by have := HB.out.size; omega) _⟩
      have hd3 : decide (x1 < (m : Int)) = false := decide_eq_false (by omega)
      have HK := Lib.hid (HXP.out.2 ⟨h1, h2, h3⟩)
      have hsz := HB.out.size
      clear h1 h2 h3 HXP
      go_wp2_with (first
        | (go_at_call 57; (first | (with_reducible refine (within_at HI.out _).mono ?_) | (with_reducible refine (within_at HJ.out _).mono ?_)); rintro e w4 ⟨rfl, rfl⟩)
        | (at_builtin; refine wpList_append_own _ rfl _ _ 22 rfl w.heap.size 3 i0 (.int .i64 0) 1 8 Try.underlying22 hi hz0 hz1 hz2 rfl (by decide) _ k _ rfl ((hown.alloc _).alloc _) ⟨wr.heap.size + 1, 0, none⟩ 1 1 [.int .i64 x0] rfl rfl (by intro j u hj; match j, hj with | 0, hj => simp at hj; subst hj; simp [Addr.add]) (by intro u hu; simp at hu; rcases hu with rfl; rfl) (by unfold maxLen; omega) (by omega) (by simp; omega) ?_; intro v' w3 hown3 hgrow3 _))
      go_roundw
      case rel =>
        obtain ⟨g4, c4, rfl⟩ := ownsRow_succ hown3
        refine ⟨k + 1, some ⟨g4, 0, none⟩, c4, by omega, by congr 1, rfl, by rw [HXL.out]; exact hown3, ?_, ?_⟩
        · intro i hi
          by_cases e : i = k
          · subst e; exact HK.out
          · exact HP.out i (by omega)
        · exact Below.grown ((HB.out.alloc (by omega) _).alloc (by simp; omega) _) hgrow3 (by simp; omega) (fun j hj => (hown.lt j hj).1)
      case measure => simp only [intOf]; omega
    · obtain rfl : k = n := by omega
      obtain ⟨g0, hf0, -⟩ := FlatAt.of_own (f := fun j => .int .i64 (a (j * 3))) hown (fun j hj => by rw [List.getElem?_map, List.getElem?_range (by omega)]; rfl)
      rw [Nat.mul_one] at hf0
      have hd := Lib.hid (iDiffer_any k hn (fun j => a (j * 3)) po co g0 0 wr (hf0.wide (Nat.zero_le _) (Nat.le_refl _)) HW.out)
      have HE := Lib.hid (show decide (dif (fun j => a (j * 3)) k) = decide (chP a nn k T) from by
        by_cases hdd : dif (fun j => a (j * 3)) k
        · rw [decide_eq_true hdd, decide_eq_true (show chP a nn k T from ⟨hn8, HP.out, hdd⟩)]
        · rw [decide_eq_false hdd, decide_eq_false (fun h : chP a nn k T => hdd h.2.2)])
      clear hf0 hown
      go_wp2_with (go_at_call 96; refine hd.out.mono ?_; rintro e w2 ⟨rfl, hb⟩)
      go_ret
      exact ⟨by rw [HE.out]; first | done | rfl, HB.out.trans (hb.mono HB.out.size)⟩

end Go.Proofs.Ytokhkcebdbopcab
