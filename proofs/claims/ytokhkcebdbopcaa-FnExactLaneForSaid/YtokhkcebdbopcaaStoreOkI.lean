/- What the program's StoreOk returns. -/
import Derived.Test.YtokhkcebdbopcaaStorePlain
import Derived.Test.YtokhkcebdbopcaaHas
import Derived.Test.YtokhkcebdbopcaaLanes
import Derived.Test.YtokhkcebdbopcaaBagsOk
import Derived.Test.YtokhkcebdbopcaaIn
import Derived.RangeFuncBox
import Derived.Lib.OthersKept
namespace Go.Proofs.Ytokhkcebdbopcaa
open Go.RowKit Go.Maps
set_option linter.unusedVariables false

theorem infoIntK : (Try.prog.info? 3).map (fun i => (i.zero, i.size, i.bytes)) = some (some (.int .i64 0), 1, 8) := by kernel_rfl
theorem cellsKept2 : Try.prog.cellsOf 49 = 2 := by kernel_rfl
theorem bgOk_list (l : List Int) : bgOk (fun j => l.getD j 0) l.length ↔ bgL l := by
  have hget : ∀ j (h : j < l.length), l.getD j 0 = l[j] := fun j h => by rw [List.getD_eq_getElem?_getD, List.getElem?_eq_getElem h]; rfl
  unfold bgOk bgL dif
  constructor
  · rintro ⟨h1, h2⟩
    refine ⟨fun x hx => ?_, ?_⟩
    · obtain ⟨j, hj, e⟩ := List.getElem_of_mem hx
      rw [← e, ← hget j hj]; exact h1 j hj
    · rw [List.nodup_iff_pairwise_ne, List.pairwise_iff_getElem]
      intro i j hi hj hij
      rw [← hget i hi, ← hget j hj]; exact h2 i j hij hj
  · rintro ⟨h1, h2⟩
    refine ⟨fun j hj => ?_, fun i j hij hj => ?_⟩
    · show 1 ≤ l.getD j 0
      rw [hget j hj]; exact h1 _ (List.getElem_mem hj)
    · rw [List.nodup_iff_pairwise_ne, List.pairwise_iff_getElem] at h2
      show l.getD i 0 ≠ l.getD j 0
      rw [hget j hj, hget i (by omega)]; exact h2 i j (by omega) hj hij
theorem part_wf {nn : Nat → Nat} {xx : Nat → Nat → Int} {n : Nat} (h : ∀ i, i < n → ∀ j, j < nn i → (Lit.int .i64 (xx i (j * 2))).wf = true) : ∀ x, x ∈ bagL nn xx n → (Lit.int .i64 x).wf = true := by
  induction n with
  | zero => intro x hx; cases hx
  | succ n ih =>
    intro x hx
    rcases List.mem_append.1 hx with h1 | h1
    · exact ih (fun i hi => h i (by omega)) x h1
    · obtain ⟨j, hj, e⟩ := List.mem_map.1 h1
      rw [← e]
      exact h n (by omega) j (by simpa using hj)
theorem bagL_len (nn : Nat → Nat) (xx : Nat → Nat → Int) (n : Nat) (h : ∀ i, i < n → nn i ≤ 5) : (bagL nn xx n).length ≤ n * 5 := by
  induction n with
  | zero => simp [bagL]
  | succ n ih =>
    have h1 := ih (fun i hi => h i (by omega))
    have h2 := h n (by omega)
    show (bagL nn xx n ++ lrow (xx n) (nn n)).length ≤ _
    rw [List.length_append, lrow_len]
    omega

set_option maxRecDepth 100000 in
set_option maxHeartbeats 8000000 in
theorem iStoreOk_any (D : Int) (n : Nat) (hn : n ≤ maxLen) (p : Option Addr) (c : Nat) (nn : Nat → Nat) (hm : ∀ i, i < n → nn i ≤ maxLen) (xx : Nat → Nat → Int) (w : World) (h : LRd w (.slice p n c) n nn xx) (hwf : ∀ i, i < n → ∀ j, j < nn i * 2 → (Lit.int .i64 (xx i j)).wf = true) :
    Calls Try.prog 18 #[.agg #[.int .i64 D, .slice p n c]] w fun e w' => e = .returned (.bool (decide (stO D n nn xx))) ∧ Below w.heap.size w w' := by
  obtain ⟨i0, hi, hz0, hz1, hz2⟩ := info_parts infoIntK
  have ck := cellsKept2
  obtain ⟨p0, c0, g, o, s, he, hc, hf, hr⟩ := h
  injection he with e1 e2 e3
  subst e1 e3
  clear e2
  have H := Lib.hid hf
  have HR := Lib.hid hr
  have HM := Lib.hid hm
  have HW := Lib.hid hwf
  clear hf hr hm hwf
  unfold maxLen at hn
  by_cases hD : 1 ≤ D ∧ D ≤ 5
  rotate_left
  · have HI := Lib.hid (inB_no.2 hD)
    have HN := Lib.hid (decide_eq_false (p := stO D n nn xx) (fun h => hD h.1))
    clear hD
    go_enter Try.func18, Try.ntmps18
    go_wp2_with (go_at_call 52; refine (within_at HI.out _).mono ?_; rintro e w4 ⟨rfl, rfl⟩)
    go_ret
    exact ⟨by rw [HN.out]; first | done | rfl, by repeat (first | exact Below.refl _ _ | refine Below.alloc ?_ (by simp <;> omega) _ | refine Below.drew ?_)⟩
  have HI := Lib.hid (inB_iff.2 hD)
  by_cases hL : (1 : Int) ≤ (n : Int) ∧ (n : Int) ≤ 4
  rotate_left
  · have HJ := Lib.hid (inB_no.2 hL)
    have HN := Lib.hid (decide_eq_false (p := stO D n nn xx) (fun h => hL (by have := h.2.1; omega)))
    clear hD hL
    go_enter Try.func18, Try.ntmps18
    go_wp2_with (go_at_call 52; (first | (with_reducible refine (within_at HI.out _).mono ?_) | (with_reducible refine (within_at HJ.out _).mono ?_)); rintro e w4 ⟨rfl, rfl⟩)
    go_ret
    exact ⟨by rw [HN.out]; first | done | rfl, by repeat (first | exact Below.refl _ _ | refine Below.alloc ?_ (by simp <;> omega) _ | refine Below.drew ?_)⟩
  have HJ := Lib.hid (inB_iff.2 hL)
  have hn4 : n ≤ 4 := by omega
  go_enter Try.func18, Try.ntmps18
  go_wp2_with (go_at_call 52; (first | (with_reducible refine (within_at HI.out _).mono ?_) | (with_reducible refine (within_at HJ.out _).mono ?_)); rintro e w4 ⟨rfl, rfl⟩)
  go_loopw [3, 23] (fun v iv wr => ∃ (k : Nat) (po : Option Addr) (co : Nat) (l : List Int), k ≤ n ∧ iv = .int .i64 (k : Int) ∧ v = .slice po l.length co ∧ wr.ownsRow (w.heap.size + 1) 3 1 (.slice po l.length co) l.length (l.map (.int .i64)) ∧ Hid (l = bagL nn xx k) ∧ Hid (∀ i, i < k → (nn i : Int) ≤ D ∧ tmOk (xx i) (nn i)) ∧ Hid (Below (w.heap.size + 1) (w.alloc (.cells #[.int .i64 D, .slice p n c] 29)) wr)) (fun _ iv _ => n - (intOf iv).toNat)
  case atStart =>
    exact ⟨0, some ⟨w.heap.size + 1, 0, none⟩, 0, [], by omega, rfl, rfl, ⟨rfl, .inr ⟨w.heap.size + 1, 0, #[], rfl, Nat.le_refl _, heap_new _ _ _ (by simp), Nat.le_refl _, by decide, by simp, by simp⟩⟩, rfl, fun i hi => absurd hi (by omega), (Below.refl _ _).alloc (by simp) _⟩
  case round =>
    obtain ⟨k, po, co, l, hk, rfl, rfl, hown, HL, HP, HB⟩ := hrel
    have hsz : w.heap.size + 1 ≤ wr.heap.size := by have := HB.out.size; simp at this; omega
    have b0 : wr.cell? ⟨w.heap.size, 0, none⟩ = some (.int .i64 D) := (HB.out.cell (p := ⟨w.heap.size, 0, none⟩) (by show w.heap.size < _; omega)).trans (by simp)
    have HBW := Lib.hid (show Below w.heap.size w wr from ((Below.refl _ _).alloc (Nat.le_refl _) _).trans (HB.out.mono (by omega)))
    by_cases hkn : k < n
    · obtain ⟨rfl, -, hg⟩ := H.out.1 (by omega)
      obtain ⟨p1, c1, g1, o1, e1, hc1, hf1⟩ := HR.out k hkn
      have a0 := (HBW.out.cell (p := ⟨g, o + k, none⟩) hg).trans (H.out.2 k hkn)
      rw [e1] at a0
      have hml := HM.out k hkn
      have hk0 : (0 : Int) ≤ (k : Int) := by omega
      have hkl : (k : Int) < (n : Int) := by omega
      have hwk : IntKind.i64.wrap ((k : Int) + 1) = (k : Int) + 1 := IntWalk.i64_in _ (by omega)
      have HNO := Lib.hid (fun (hh : ¬ ((nn k : Int) ≤ D ∧ tmOk (xx k) (nn k))) => decide_eq_false (p := stO D n nn xx) (fun h => hh (h.2.2.1 k hkn)))
      have HYE := Lib.hid (fun (hh : (nn k : Int) ≤ D ∧ tmOk (xx k) (nn k)) (i : Nat) (hi : i < k + 1) => show (nn i : Int) ≤ D ∧ tmOk (xx i) (nn i) from by
        by_cases e : i = k
        · subst e; exact hh
        · exact HP.out i (by omega))
      have HLE := Lib.hid (show bagL nn xx (k + 1) = l ++ lrow (xx k) (nn k) from by rw [HL.out]; rfl)
      have hl25 : l.length ≤ k * 5 := by rw [HL.out]; exact bagL_len nn xx k (fun i hi => by have := (HP.out i hi).1; omega)
      obtain ⟨m, hm⟩ : ∃ m, m = nn k := ⟨_, rfl⟩
      obtain ⟨x, hx⟩ : ∃ x, x = xx k := ⟨_, rfl⟩
      rw [← hm] at a0 hf1 hml HNO HYE HLE
      rw [← hx] at hf1 HNO HYE HLE
      have HFI := Lib.hid hf1
      clear hm hx e1 hf1 HP HL hc1
      unfold maxLen at hml
      by_cases hmD : (m : Int) ≤ D
      rotate_left
      · have hd : decide (D < (m : Int)) = true := decide_eq_true (by omega)
        have HN := Lib.hid (HNO.out (fun h => hmD h.1))
        clear HNO HYE
        go_wp2_with fail
        go_ret
        exact ⟨by rw [HN.out]; first | done | rfl, HBW.out⟩
      have hd : decide (D < (m : Int)) = false := decide_eq_false (by omega)
      have HB0 := Lib.hid b0
      obtain ⟨wo, rfl⟩ : ∃ wo, wo = wr := ⟨_, rfl⟩
      go_wp2_with fail
      go_loopw [3, 34] (fun v jv wr => ∃ (j : Nat) (po : Option Addr) (co : Nat) (q : List Int), j ≤ m ∧ jv = .int .i64 (j : Int) ∧ v = .slice po q.length co ∧ wr.ownsRow (w.heap.size + 1) 3 1 (.slice po q.length co) q.length (q.map (.int .i64)) ∧ Hid (q = l ++ lrow x j) ∧ Hid (tmOk x j) ∧ Hid (Below (w.heap.size + 1) (w.alloc (.cells #[.int .i64 D, .slice (some ⟨g, o, none⟩) n c] 29)) wr)) (fun _ jv _ => m - (intOf jv).toNat)
      case atStart => exact ⟨0, po, co, l, by omega, rfl, rfl, hown, by rw [lrow_zero, List.append_nil]; exact rfl, fun i hi => absurd hi (by omega), HB.out⟩
      case round =>
        obtain ⟨j, pq, cq, q, hj, rfl, rfl, hoq, HQ, HT, HBJ⟩ := hrel
        have hszj : w.heap.size + 1 ≤ wr.heap.size := by have := HBJ.out.size; simp at this; omega
        have hbr : Below w.heap.size w wr := ((Below.refl _ _).alloc (Nat.le_refl _) _).trans (HBJ.out.mono (by omega))
        have HBR := Lib.hid hbr
        have hq30 : q.length ≤ 1000 := by rw [HQ.out, List.length_append, lrow_len]; omega
        by_cases hjm : j < m
        · obtain ⟨rfl, -, hg1⟩ := HFI.out.1 (by omega)
          obtain ⟨a1, a2⟩ := HFI.out.at2 HBR.out (Nat.le_refl _) j (by omega)
          have hj0 : (0 : Int) ≤ (j : Int) := by omega
          have hjl : (j : Int) < (m : Int) := by omega
          have hwj : IntKind.i64.wrap ((j : Int) + 1) = (j : Int) + 1 := IntWalk.i64_in _ (by omega)
          have HXL := Lib.hid (show (q ++ [x (j * 2)]).map (Value.int .i64) = q.map (.int .i64) ++ [.int .i64 (x (j * 2))] by rw [List.map_append]; rfl)
          have HQ2 := Lib.hid (show q ++ [x (j * 2)] = l ++ lrow x (j + 1) by rw [HQ.out, lrow_succ, List.append_assoc])
          have HTY := Lib.hid (fun (hh : 0 ≤ x (j * 2 + 1) ∧ x (j * 2 + 1) ≤ 100000) (i : Nat) (hi : i < j + 1) => show 0 ≤ x (i * 2 + 1) ∧ x (i * 2 + 1) ≤ 100000 from by
            by_cases e : i = j
            · subst e; exact hh
            · exact HT.out i (by omega))
          have HTN := Lib.hid (fun (hh : ¬ (0 ≤ x (j * 2 + 1) ∧ x (j * 2 + 1) ≤ 100000)) => HNO.out (fun h => hh (h.2 j hjm)))
          obtain ⟨y0, hy0⟩ : ∃ y, y = x (j * 2) := ⟨_, rfl⟩
          obtain ⟨y1, hy1⟩ : ∃ y, y = x (j * 2 + 1) := ⟨_, rfl⟩
          rw [← hy0] at a1 HXL HQ2
          rw [← hy1] at a2 HTY HTN
          clear hy0 hy1 HQ HT hbr HNO
          by_cases ht : 0 ≤ y1 ∧ y1 ≤ 100000
          rotate_left
          · have HIT := Lib.hid (inB_no.2 ht)
            have HN := Lib.hid (HTN.out ht)
            clear ht HTN HTY
            go_wp2_with (go_at_call 52; with_reducible refine (within_at HIT.out _).mono ?_; rintro e w4 ⟨rfl, rfl⟩)
            go_ret
            exact ⟨by rw [HN.out]; first | done | rfl, HBR.out.alloc (by omega) _⟩
          have HIT := Lib.hid (inB_iff.2 ht)
          have HT2 := Lib.hid (HTY.out ht)
          clear ht HTN HTY
          go_wp2_with (first
            | (go_at_call 52; with_reducible refine (within_at HIT.out _).mono ?_; rintro e w4 ⟨rfl, rfl⟩)
            | (at_builtin; refine wpList_append_own _ rfl _ _ 56 rfl (w.heap.size + 1) 3 i0 (.int .i64 0) 1 8 Try.underlying56 hi hz0 hz1 hz2 rfl (by decide) _ q.length _ rfl ((hoq.alloc _).alloc _) ⟨wr.heap.size + 1, 0, none⟩ 1 1 [.int .i64 y0] rfl rfl (by intro j u hj; match j, hj with | 0, hj => simp at hj; subst hj; simp [Addr.add]) (by intro u hu; simp at hu; rcases hu with rfl; rfl) (by unfold maxLen; omega) (by omega) (by simp; omega) ?_; intro v' w3 hown3 hgrow3 _))
          go_roundw
          case rel =>
            obtain ⟨g4, c4, rfl⟩ := ownsRow_succ hown3
            refine ⟨j + 1, some ⟨g4, 0, none⟩, c4, q ++ [y0], by omega, by congr 1, by rw [List.length_append]; rfl, by rw [HXL.out, List.length_append]; exact hown3, HQ2.out, HT2.out, ?_⟩
            exact Below.grown ((HBJ.out.alloc (by first | omega | (simp; omega)) _).alloc (by first | omega | (simp; omega)) _) hgrow3 (by first | omega | (simp; omega)) (fun j hj => (hoq.lt j hj).1)
          case measure => simp only [intOf]; omega
        · obtain rfl : j = m := by omega
          have HPP := Lib.hid (HYE.out ⟨hmD, HT.out⟩)
          have HQE := Lib.hid (HQ.out.trans HLE.out.symm)
          go_wp2_with fail
          go_roundw
          case rel => exact ⟨k + 1, pq, cq, q, by omega, by congr 1, rfl, hoq, HQE.out, HPP.out, HBJ.out⟩
          case measure => simp only [intOf]; omega
    · obtain rfl : k = n := by omega
      obtain ⟨gq, hfq⟩ := flat_of_list hown
      have hl20 : l.length ≤ k * 5 := by rw [HL.out]; exact bagL_len nn xx k (fun i hi => by have := (HP.out i hi).1; omega)
      have hbk := Lib.hid (iBags_any l.length (by omega) (fun j => l.getD j 0) po co gq 0 wr (hfq.wide (Nat.zero_le _) (Nat.le_refl _)) (fun j hj => by
        show (Lit.int .i64 (l.getD j 0)).wf = true
        rw [List.getD_eq_getElem?_getD, List.getElem?_eq_getElem hj]
        refine part_wf (nn := nn) (xx := xx) (n := k) (fun i hi j hj => HW.out i hi (j * 2) (by omega)) _ ?_
        rw [← HL.out]
        exact List.getElem_mem hj))
      have HE := (show decide (bgOk (fun j => l.getD j 0) l.length) = decide (stO D k nn xx) from by
        refine decide_eq_decide.2 ((bgOk_list l).trans ?_)
        rw [HL.out]
        exact ⟨fun h => ⟨hD, ⟨by omega, by omega⟩, HP.out, h⟩, fun h => h.2.2.2⟩)
      rw [HE] at hbk
      clear hfq hown HE
      go_wp2_with (go_at_call 53; refine hbk.out.mono ?_; rintro e w2 ⟨rfl, hb⟩)
      go_ret
      exact ⟨rfl, HBW.out.trans (hb.mono HBW.out.size)⟩

end Go.Proofs.Ytokhkcebdbopcaa
