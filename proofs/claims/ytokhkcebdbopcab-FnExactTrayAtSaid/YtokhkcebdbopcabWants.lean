/- What the program's wantsOk returns. -/
import Derived.Test.YtokhkcebdbopcabChutes
import Derived.Test.YtokhkcebdbopcabOwnV
namespace Go.Proofs.Ytokhkcebdbopcab
open Go.RowKit Go.Maps
set_option linter.unusedVariables false

/-- The least that the j-th may be. -/
def lea (x : Nat → Int) (j : Nat) : Int := if j = 0 then 0 else x (j - 1) + 1
/-- m numbers that rise, from 0 to C - 1. -/
def asc (x : Nat → Int) (C : Int) (m : Nat) : Prop := ∀ j, j < m → lea x j ≤ x j ∧ x j ≤ C - 1
instance (x : Nat → Int) (C : Int) (m : Nat) : Decidable (asc x C m) := by unfold asc; exact inferInstance
theorem lea_bound {x : Nat → Int} {C : Int} {j : Nat} (h : asc x C j) (hC : 0 ≤ C) : 0 ≤ lea x j ∧ lea x j ≤ C := by
  induction j with
  | zero => exact ⟨by simp [lea], by simp [lea]; omega⟩
  | succ j ih =>
    have h1 := h j (by omega)
    have h2 := ih (fun i hi => h i (by omega))
    have e : lea x (j + 1) = x j + 1 := by simp [lea]
    rw [e]
    omega
/-- The wants are valid at C chutes. -/
def wtP (a : Nat → Int) (nn : Nat → Nat) (xx : Nat → Nat → Int) (n : Nat) (C : Int) : Prop := n ≤ 60 ∧ (∀ i, i < n → asc (xx i) C (nn i)) ∧ bgOk (fun i => a (i * 2)) n
instance (a : Nat → Int) (nn : Nat → Nat) (xx : Nat → Nat → Int) (n : Nat) (C : Int) : Decidable (wtP a nn xx n C) := by unfold wtP; exact inferInstance

set_option maxRecDepth 100000 in
set_option maxHeartbeats 8000000 in
theorem iWants_any (n : Nat) (hn : n ≤ 1099511627776) (a : Nat → Int) (s : Nat → Value) (nn : Nat → Nat) (xx : Nat → Nat → Int) (hm : ∀ i, i < n → nn i ≤ maxLen) (p : Option Addr) (c g o : Nat) (C : Int) (hC : 0 ≤ C ∧ C ≤ 1099511627776) (w : World)
    (hs : ∀ i, i < n → Rd w (s i) (nn i) (nn i) (xx i)) (h : FlatAt w 0 w.heap.size p g o (n * 2) (fun j => if j % 2 = 1 then s (j / 2) else .int .i64 (a j))) (hwf : ∀ j, j < n → (Lit.int .i64 (a (j * 2))).wf = true) :
    Calls Try.prog 61 #[.slice p n c, .int .i64 C] w fun e w' => e = .returned (.bool (decide (wtP a nn xx n C))) ∧ Below w.heap.size w w' := by
  obtain ⟨i0, hi, hz0, hz1, hz2⟩ := info_parts infoIntC
  have H := Lib.hid h
  have HW := Lib.hid hwf
  have HS := Lib.hid hs
  have HM := Lib.hid hm
  have hwT : IntKind.i64.wrap (C - 1) = C - 1 := IntWalk.i64_in _ (by omega)
  clear h hwf hs hm
  by_cases hn8 : n ≤ 60
  rotate_left
  · have hd1 : decide ((60 : Int) < (n : Int)) = true := decide_eq_true (by omega)
    have HN := Lib.hid (decide_eq_false (p := wtP a nn xx n C) (fun h => hn8 h.1))
    go_enter Try.func61, Try.ntmps61
    go_wp2_with fail
    go_ret
    exact ⟨by rw [HN.out]; first | done | rfl, Below.refl _ _⟩
  have hd1 : decide ((60 : Int) < (n : Int)) = false := decide_eq_false (by omega)
  go_enter Try.func61, Try.ntmps61
  go_wp2_with fail
  go_loopw [5, 17] (fun v iv wr => ∃ (k : Nat) (po : Option Addr) (co : Nat), k ≤ n ∧ iv = .int .i64 (k : Int) ∧ v = .slice po k co ∧ wr.ownsRow w.heap.size 3 1 (.slice po k co) k ((List.range k).map (fun j => .int .i64 (a (j * 2)))) ∧ Hid (∀ i, i < k → asc (xx i) C (nn i)) ∧ Hid (Below w.heap.size w wr)) (fun _ iv _ => n - (intOf iv).toNat)
  case atStart =>
    exact ⟨0, some ⟨w.heap.size, 0, none⟩, 0, by omega, rfl, rfl, ⟨rfl, .inr ⟨w.heap.size, 0, #[], rfl, Nat.le_refl _, heap_new _ _ _ rfl, Nat.le_refl _, by decide, by simp, by simp⟩⟩, fun i hi => absurd hi (by omega), (Below.refl _ _).alloc (Nat.le_refl _) _⟩
  case round =>
    obtain ⟨k, po, co, hk, rfl, rfl, hown, HP, HB⟩ := hrel
    by_cases hkn : k < n
    · obtain ⟨rfl, -, hg⟩ := H.out.1 (by omega)
      obtain ⟨pp, cc, gg, oo, hsk, -, hf⟩ := HS.out k hkn
      have hml := HM.out k hkn
      have a0 : wr.cell? ⟨g, o + k * 2, none⟩ = some (.int .i64 (a (k * 2))) := (HB.out.cell (p := ⟨g, o + k * 2, none⟩) hg).trans ((H.out.2 (k * 2) (by omega)).trans (congrArg some (if_neg (by omega))))
      have a1 : wr.cell? ⟨g, o + k * 2 + 1, none⟩ = some (.slice pp (nn k) cc) := (HB.out.cell (p := ⟨g, o + k * 2 + 1, none⟩) hg).trans ((H.out.2 (k * 2 + 1) (by omega)).trans ((congrArg some (if_pos (by omega))).trans (by rw [show (k * 2 + 1) / 2 = k by omega, hsk])))
      have hk0 : (0 : Int) ≤ (k : Int) := by omega
      have hkl : (k : Int) < (n : Int) := by omega
      have hwk : IntKind.i64.wrap ((k : Int) + 1) = (k : Int) + 1 := IntWalk.i64_in _ (by omega)
      have HXL := Lib.hid (show (List.range (k + 1)).map (fun j => Value.int .i64 (a (j * 2))) = (List.range k).map (fun j => .int .i64 (a (j * 2))) ++ [.int .i64 (a (k * 2))] by rw [List.range_succ, List.map_append]; rfl)
      have HNO := Lib.hid (fun (hh : ¬ asc (xx k) C (nn k)) => decide_eq_false (p := wtP a nn xx n C) (fun h => hh (h.2.1 k hkn)))
      have HYE := Lib.hid (fun (hh : asc (xx k) C (nn k)) (i : Nat) (hi : i < k + 1) => show asc (xx i) C (nn i) from by
        by_cases e : i = k
        · subst e; exact hh
        · exact HP.out i (by omega))
      obtain ⟨x0, hx0⟩ : ∃ x, x = a (k * 2) := ⟨_, rfl⟩
      obtain ⟨m, hm⟩ : ∃ m, m = nn k := ⟨_, rfl⟩
      obtain ⟨x, hx⟩ : ∃ x, x = xx k := ⟨_, rfl⟩
      rw [← hx0] at a0 HXL
      rw [← hm] at a1 hf hml HNO HYE
      rw [← hx] at hf HNO HYE
      clear hx0 hm hx hsk
      have HF := Lib.hid hf
      have hsz := HB.out.size
      unfold maxLen at hml
      obtain ⟨wo, hwo⟩ : ∃ wo, wo = wr.alloc (.cells #[.int .i64 x0, .slice pp m cc] 66) := ⟨_, rfl⟩
      have hbo : Below wr.heap.size wr wo := by rw [hwo]; exact (Below.refl _ _).alloc (Nat.le_refl _) _
      have hso : wo.heap.size = wr.heap.size + 1 := by rw [hwo]; simp
      have e0 : wo.cell? ⟨wr.heap.size, 0, none⟩ = some (.int .i64 x0) := by rw [hwo]; simp
      have e1 : wo.cell? ⟨wr.heap.size, 1, none⟩ = some (.slice pp m cc) := by rw [hwo]; simp
      have hown2 : wo.ownsRow w.heap.size 3 1 (.slice po k co) k ((List.range k).map (fun j => .int .i64 (a (j * 2)))) := by rw [hwo]; exact hown.alloc _
      have HBO := Lib.hid (HB.out.trans (hbo.mono HB.out.size))
      have HFO := Lib.hid (HF.out.below HBO.out (Nat.le_refl _))
      have HWO := Lib.hid hwo
      clear hf hwo hown hbo HF HB
      go_wp2_with fail
      rw [← HWO.out]
      go_loopw [8, 24] (fun lv jv wq => ∃ j : Nat, j ≤ m ∧ jv = .int .i64 (j : Int) ∧ lv = .int .i64 (lea x j) ∧ Hid (asc x C j) ∧ wo = wq) (fun _ jv _ => m - (intOf jv).toNat)
      case atStart => exact ⟨0, by omega, rfl, rfl, fun i hi => absurd hi (by omega), rfl⟩
      case round =>
        obtain ⟨j, hj, rfl, rfl, HA, rfl⟩ := hrel
        by_cases hjm : j < m
        · obtain ⟨rfl, -, hgg⟩ := HFO.out.1 (by omega)
          have b0 := HFO.out.int j hjm
          have hj0 : (0 : Int) ≤ (j : Int) := by omega
          have hjl : (j : Int) < (m : Int) := by omega
          have hwj : IntKind.i64.wrap ((j : Int) + 1) = (j : Int) + 1 := IntWalk.i64_in _ (by omega)
          have hlb := lea_bound HA.out hC.1
          have HLE := Lib.hid (show lea x (j + 1) = x j + 1 by simp [lea])
          obtain ⟨y, hy⟩ : ∃ y, y = x j := ⟨_, rfl⟩
          obtain ⟨l, hl⟩ : ∃ l, l = lea x j := ⟨_, rfl⟩
          have HY := Lib.hid hy
          have HL := Lib.hid hl
          rw [← hy] at b0 HLE
          rw [← hl] at hlb ⊢
          clear hy hl
          by_cases h1 : l ≤ y ∧ y ≤ C - 1
          · have HI := Lib.hid (inB_iff.2 h1)
            have hwy : IntKind.i64.wrap (y + 1) = y + 1 := IntWalk.i64_in _ (by omega)
            have HA2 : Hid (asc x C (j + 1)) := fun i hi => by
              by_cases e : i = j
              · subst e; rw [← HY.out, ← HL.out]; exact h1
              · exact HA.out i (by omega)
            clear h1 hlb
            go_wp2_with (go_at_call 57; with_reducible refine (within_at HI.out _).mono ?_; rintro e w4 ⟨rfl, rfl⟩)
            go_roundw
            case rel => exact ⟨j + 1, by omega, by congr 1, by rw [HLE.out], HA2, by first | rfl | trivial⟩
            case measure => simp only [intOf]; omega
          · have HI := Lib.hid (inB_no.2 h1)
            have HN := Lib.hid (HNO.out (fun h => h1 (by have := h j hjm; rw [← HY.out, ← HL.out] at this; exact this)))
            clear h1 hlb
            go_wp2_with (go_at_call 57; with_reducible refine (within_at HI.out _).mono ?_; rintro e w4 ⟨rfl, rfl⟩)
            go_ret
            exact ⟨by rw [HN.out]; first | done | rfl, HBO.out⟩
        · obtain rfl : j = m := by omega
          have HPP := Lib.hid (HYE.out HA.out)
          clear HYE HNO
          go_wp2_with (at_builtin; refine wpList_append_own _ rfl _ _ 22 rfl w.heap.size 3 i0 (.int .i64 0) 1 8 Try.underlying22 hi hz0 hz1 hz2 rfl (by decide) _ k _ rfl (hown2.alloc _) ⟨wr.heap.size + 1, 0, none⟩ 1 1 [.int .i64 x0] rfl rfl (by intro j u hj; match j, hj with | 0, hj => simp at hj; subst hj; rw [← hso]; simp [Addr.add]) (by intro u hu; simp at hu; rcases hu with rfl; rfl) (by unfold maxLen; omega) (by omega) (by simp; omega) ?_; intro v' w3 hown3 hgrow3 _)
          go_roundw
          case rel =>
            obtain ⟨g4, c4, rfl⟩ := ownsRow_succ hown3
            exact ⟨k + 1, some ⟨g4, 0, none⟩, c4, by omega, by congr 1, rfl, by rw [HXL.out]; exact hown3, HPP.out, Below.grown (HBO.out.alloc (by omega) _) hgrow3 (by simp; omega) (fun j hj => (hown2.lt j hj).1)⟩
          case measure => simp only [intOf]; omega
    · obtain rfl : k = n := by omega
      obtain ⟨g0, hf0, -⟩ := FlatAt.of_own (f := fun j => .int .i64 (a (j * 2))) hown (fun j hj => by rw [List.getElem?_map, List.getElem?_range (by omega)]; rfl)
      rw [Nat.mul_one] at hf0
      have hd := Lib.hid (iBags_any k hn (fun j => a (j * 2)) po co g0 0 wr (hf0.wide (Nat.zero_le _) (Nat.le_refl _)) HW.out)
      have HE := Lib.hid (show decide (bgOk (fun j => a (j * 2)) k) = decide (wtP a nn xx k C) from by
        by_cases hdd : bgOk (fun j => a (j * 2)) k
        · rw [decide_eq_true hdd, decide_eq_true (show wtP a nn xx k C from ⟨hn8, HP.out, hdd⟩)]
        · rw [decide_eq_false hdd, decide_eq_false (fun h : wtP a nn xx k C => hdd h.2.2)])
      clear hf0 hown
      go_wp2_with (go_at_call 58; refine hd.out.mono ?_; rintro e w2 ⟨rfl, hb⟩)
      go_ret
      exact ⟨by rw [HE.out]; first | done | rfl, HB.out.trans (hb.mono HB.out.size)⟩

end Go.Proofs.Ytokhkcebdbopcab
