/- What the model's StoreOk returns. -/
import Derived.Test.YtokhkcebdbopcaaStorePlain
import Derived.Test.YtokhkcebdbopcaaHas
import Derived.Test.YtokhkcebdbopcaaLanes
import Derived.Test.YtokhkcebdbopcaaIn
import Derived.BigQuiet
import Derived.Deep.QuietTactic
import Derived.OwnWalk
import Derived.RangeFuncBox
import Derived.Lib.OthersKept
namespace Go.Proofs.Ytokhkcebdbopcaa
open Go.RowKit
set_option linter.unusedVariables false

theorem infoIntL : (Try.prog.info? 3).map (fun i => (i.zero, i.size, i.bytes)) = some (some (.int .i64 0), 1, 8) := by kernel_rfl
theorem cellsKeptS : Try.prog.cellsOf 49 = 2 := by kernel_rfl
theorem bagL_len2 (nn : Nat → Nat) (xx : Nat → Nat → Int) (n : Nat) (h : ∀ i, i < n → nn i ≤ 5) : (bagL nn xx n).length ≤ n * 5 := by
  induction n with
  | zero => simp [bagL]
  | succ n ih =>
    have h1 := ih (fun i hi => h i (by omega))
    have h2 := h n (by omega)
    show (bagL nn xx n ++ lrow (xx n) (nn n)).length ≤ _
    rw [List.length_append, lrow_len]
    omega

set_option maxRecDepth 100000 in
set_option maxHeartbeats 8000000 in
theorem sStoreOk_any (D : Int) (n : Nat) (hn : n ≤ maxLen) (p : Option Addr) (c : Nat) (nn : Nat → Nat) (hm : ∀ i, i < n → nn i ≤ maxLen) (xx : Nat → Nat → Int) (w : World) (h : LRd w (.slice p n c) n nn xx) :
    Calls Try.prog 16 #[.agg #[.int .i64 D, .slice p n c]] w fun e w' => e = .returned (.bool (decide (stO D n nn xx))) ∧ Below w.heap.size w w' := by
  obtain ⟨i0, hi, hz0, hz1, hz2⟩ := info_parts infoIntL
  have ck := cellsKeptS
  obtain ⟨p0, c0, g, o, s, he, hc, hf, hr⟩ := h
  injection he with e1 e2 e3
  subst e1 e3
  clear e2
  have H := Lib.hid hf
  have HR := Lib.hid hr
  have HM := Lib.hid hm
  clear hf hr hm
  unfold maxLen at hn
  by_cases hD : 1 ≤ D ∧ D ≤ 5
  rotate_left
  · have HI := Lib.hid (inB_no.2 hD)
    have HN := Lib.hid (decide_eq_false (p := stO D n nn xx) (fun h => hD h.1))
    clear hD
    go_enter Try.func16, Try.ntmps16
    go_wp2_with (go_at_call 49; refine (specIn_at HI.out _).mono ?_; rintro e w4 ⟨rfl, rfl⟩)
    go_ret
    exact ⟨by rw [HN.out]; first | done | rfl, by repeat (first | exact Below.refl _ _ | refine Below.alloc ?_ (by simp <;> omega) _ | refine Below.drew ?_)⟩
  have HI := Lib.hid (inB_iff.2 hD)
  by_cases hL : (1 : Int) ≤ (n : Int) ∧ (n : Int) ≤ 4
  rotate_left
  · have HJ := Lib.hid (inB_no.2 hL)
    have HN := Lib.hid (decide_eq_false (p := stO D n nn xx) (fun h => hL (by have := h.2.1; omega)))
    clear hD hL
    go_enter Try.func16, Try.ntmps16
    go_wp2_with (go_at_call 49; (first | (with_reducible refine (specIn_at HI.out _).mono ?_) | (with_reducible refine (specIn_at HJ.out _).mono ?_)); rintro e w4 ⟨rfl, rfl⟩)
    go_ret
    exact ⟨by rw [HN.out]; first | done | rfl, by repeat (first | exact Below.refl _ _ | refine Below.alloc ?_ (by simp <;> omega) _ | refine Below.drew ?_)⟩
  have HJ := Lib.hid (inB_iff.2 hL)
  have hn4 : n ≤ 4 := by omega
  go_enter Try.func16, Try.ntmps16
  go_wp2_with (go_at_call 49; (first | (with_reducible refine (specIn_at HI.out _).mono ?_) | (with_reducible refine (specIn_at HJ.out _).mono ?_)); rintro e w4 ⟨rfl, rfl⟩)
  go_loopw [3, 4] (fun v iv wr => ∃ (k : Nat) (po : Option Addr) (co : Nat) (l : List Int), k ≤ n ∧ iv = .int .i64 (k : Int) ∧ v = .slice po l.length co ∧ wr.ownsRow (w.heap.size + 1) 3 1 (.slice po l.length co) l.length (l.map (.int .i64)) ∧ Hid (l = bagL nn xx k) ∧ Hid (bgL l) ∧ Hid (∀ i, i < k → (nn i : Int) ≤ D ∧ tmOk (xx i) (nn i)) ∧ Hid (Below (w.heap.size + 1) (w.alloc (.cells #[.int .i64 D, .slice p n c] 29)) wr)) (fun _ iv _ => n - (intOf iv).toNat)
  case atStart =>
    exact ⟨0, some ⟨w.heap.size + 1, 0, none⟩, 0, [], by omega, rfl, rfl, ⟨rfl, .inr ⟨w.heap.size + 1, 0, #[], rfl, Nat.le_refl _, heap_new _ _ _ (by simp), Nat.le_refl _, by decide, by simp, by simp⟩⟩, rfl, bgL_nil, fun i hi => absurd hi (by omega), (Below.refl _ _).alloc (by simp) _⟩
  case round =>
    obtain ⟨k, po, co, l, hk, rfl, rfl, hown, HL, HBG, HP, HB⟩ := hrel
    have hsz : w.heap.size + 1 ≤ wr.heap.size := by have := HB.out.size; simp at this; omega
    have b0 : wr.cell? ⟨w.heap.size, 0, none⟩ = some (.int .i64 D) := (HB.out.cell (p := ⟨w.heap.size, 0, none⟩) (by show w.heap.size < _; omega)).trans (by simp)
    have b1 : wr.cell? ⟨w.heap.size, 1, none⟩ = some (.slice p n c) := (HB.out.cell (p := ⟨w.heap.size, 1, none⟩) (by show w.heap.size < _; omega)).trans (by simp)
    have HBW := Lib.hid (show Below w.heap.size w wr from ((Below.refl _ _).alloc (Nat.le_refl _) _).trans (HB.out.mono (by omega)))
    by_cases hkn : k < n
    · obtain ⟨rfl, -, hg⟩ := H.out.1 (by omega)
      obtain ⟨p1, c1, g1, o1, e1, hc1, hf1⟩ := HR.out k hkn
      have a0 := (HBW.out.cell (p := ⟨g, o + k, none⟩) hg).trans (H.out.2 k hkn)
      have hs0 := H.out.2 k hkn
      rw [e1] at a0 hs0
      have hml := HM.out k hkn
      have hk0 : (0 : Int) ≤ (k : Int) := by omega
      have hkl : (k : Int) < (n : Int) := by omega
      have hwk : IntKind.i64.wrap ((k : Int) + 1) = (k : Int) + 1 := IntWalk.i64_in _ (by omega)
      have HNO := Lib.hid (fun (hh : ¬ ((nn k : Int) ≤ D ∧ tmOk (xx k) (nn k))) => decide_eq_false (p := stO D n nn xx) (fun h => hh (h.2.2.1 k hkn)))
      have HNB := Lib.hid (fun (j : Nat) (hj : j ≤ nn k) (hh : ¬ bgL (l ++ lrow (xx k) j)) => decide_eq_false (p := stO D n nn xx) (fun h => hh (bgL_pre (by rw [HL.out]; exact part_pre hkn hj) h.2.2.2)))
      have HYE := Lib.hid (fun (hh : (nn k : Int) ≤ D ∧ tmOk (xx k) (nn k)) (i : Nat) (hi : i < k + 1) => show (nn i : Int) ≤ D ∧ tmOk (xx i) (nn i) from by
        by_cases e : i = k
        · subst e; exact hh
        · exact HP.out i (by omega))
      have HLE := Lib.hid (show bagL nn xx (k + 1) = l ++ lrow (xx k) (nn k) from by rw [HL.out]; rfl)
      have hl25 : l.length ≤ k * 5 := by rw [HL.out]; exact bagL_len2 nn xx k (fun i hi => by have := (HP.out i hi).1; omega)
      obtain ⟨m, hm⟩ : ∃ m, m = nn k := ⟨_, rfl⟩
      obtain ⟨x, hx⟩ : ∃ x, x = xx k := ⟨_, rfl⟩
      rw [← hm] at a0 hs0 hf1 hml HNO HYE HLE HNB
      rw [← hx] at hf1 HNO HYE HLE HNB
      have HFI := Lib.hid hf1
      have HS0 := Lib.hid hs0
      clear hm hx e1 hf1 HP HL hc1 hs0
      unfold maxLen at hml
      by_cases hmD : (m : Int) ≤ D
      rotate_left
      · have hd : decide (D < (m : Int)) = true := decide_eq_true (by omega)
        have HN := Lib.hid (HNO.out (fun h => hmD h.1))
        clear HNO HYE HNB
        go_wp2_with fail
        go_quiet (fail)
        go_wp2_with fail
        go_ret
        exact ⟨by rw [HN.out]; first | done | rfl, below_drewN' HBW.out _⟩
      have hd : decide (D < (m : Int)) = false := decide_eq_false (by omega)
      obtain ⟨wo, rfl⟩ : ∃ wo, wo = wr := ⟨_, rfl⟩
      go_wp2_with fail
      go_quiet (fail)
      generalize hwq : wo.drewN nq = w9
      have hown9 : w9.ownsRow (w.heap.size + 1) 3 1 (.slice po l.length co) l.length (l.map (.int .i64)) := by rw [← hwq]; exact hown
      have HB9 : Hid (Below (w.heap.size + 1) (w.alloc (.cells #[.int .i64 D, .slice (some ⟨g, o, none⟩) n c] 29)) w9) := by rw [← hwq]; exact below_drewN' HB.out _
      clear hwq hown HB b0 b1 a0
      go_wp2_with fail
      go_loopw [3, 5] (fun v jv wr => ∃ (j : Nat) (po : Option Addr) (co : Nat) (q : List Int), j ≤ m ∧ jv = .int .i64 (j : Int) ∧ v = .slice po q.length co ∧ wr.ownsRow (w.heap.size + 1) 3 1 (.slice po q.length co) q.length (q.map (.int .i64)) ∧ Hid (q = l ++ lrow x j) ∧ Hid (bgL q) ∧ Hid (tmOk x j) ∧ Hid (Below (w.heap.size + 1) (w.alloc (.cells #[.int .i64 D, .slice (some ⟨g, o, none⟩) n c] 29)) wr)) (fun _ jv _ => m - (intOf jv).toNat)
      case atStart => exact ⟨0, po, co, l, by omega, rfl, rfl, hown9, by rw [lrow_zero, List.append_nil]; exact rfl, HBG.out, fun i hi => absurd hi (by omega), HB9.out⟩
      case round =>
        obtain ⟨j, pq, cq, q, hj, rfl, rfl, hoq, HQ, HBQ, HT, HBJ⟩ := hrel
        have hszj : w.heap.size + 1 ≤ wr.heap.size := by have := HBJ.out.size; simp at this; omega
        have hbr : Below w.heap.size w wr := ((Below.refl _ _).alloc (Nat.le_refl _) _).trans (HBJ.out.mono (by omega))
        have HBR := Lib.hid hbr
        have b1 : wr.cell? ⟨w.heap.size, 1, none⟩ = some (.slice (some ⟨g, o, none⟩) n c) := (HBJ.out.cell (p := ⟨w.heap.size, 1, none⟩) (by show w.heap.size < _; omega)).trans (by simp)
        have a0 := (HBR.out.cell (p := ⟨g, o + k, none⟩) hg).trans HS0.out
        have hq30 : q.length ≤ 1000 := by rw [HQ.out, List.length_append, lrow_len]; omega
        by_cases hjm : j < m
        · obtain ⟨rfl, -, hg1⟩ := HFI.out.1 (by omega)
          obtain ⟨a1, a2⟩ := HFI.out.at2 HBR.out (Nat.le_refl _) j (by omega)
          have hj0 : (0 : Int) ≤ (j : Int) := by omega
          have hjl : (j : Int) < (m : Int) := by omega
          have hwj : IntKind.i64.wrap ((j : Int) + 1) = (j : Int) + 1 := IntWalk.i64_in _ (by omega)
          have HXL := Lib.hid (show (q ++ [x (j * 2)]).map (Value.int .i64) = q.map (.int .i64) ++ [.int .i64 (x (j * 2))] by rw [List.map_append]; rfl)
          have HQ2 := Lib.hid (show q ++ [x (j * 2)] = l ++ lrow x (j + 1) by rw [HQ.out, lrow_succ, List.append_assoc])
          have HTY := Lib.hid (fun (hh : 0 ≤ x (j * 2 + 1) ∧ x (j * 2 + 1) ≤ 100000) (i : Nat) (hi : i < j + 1) => show 0 ≤ x (i * 2 + 1) ∧ x (i * 2 + 1) ≤ 100000 from by
            by_cases e : i = j
            · subst e; exact hh
            · exact HT.out i (by omega))
          have HTN := Lib.hid (fun (hh : ¬ (0 ≤ x (j * 2 + 1) ∧ x (j * 2 + 1) ≤ 100000)) => HNO.out (fun h => hh (h.2 j hjm)))
          have HBN := Lib.hid (fun (hh : ¬ (1 ≤ x (j * 2) ∧ x (j * 2) ∉ q)) => HNB.out (j + 1) hjm (by rw [← HQ2.out, bgL_one]; exact fun h => hh h.2))
          obtain ⟨y0, hy0⟩ : ∃ y, y = x (j * 2) := ⟨_, rfl⟩
          obtain ⟨y1, hy1⟩ : ∃ y, y = x (j * 2 + 1) := ⟨_, rfl⟩
          rw [← hy0] at a1 HXL HQ2 HBN
          rw [← hy1] at a2 HTY HTN
          clear hy0 hy1 HQ HT hbr HNO HNB
          by_cases hb1 : 1 ≤ y0
          rotate_left
          · have hd1 : decide (y0 < 1) = true := decide_eq_true (by omega)
            have HN := Lib.hid (HBN.out (fun h => hb1 h.1))
            clear HTN HTY HBN
            go_wp2_with fail
            go_ret
            exact ⟨by rw [HN.out]; first | done | rfl, HBR.out.alloc (by omega) _⟩
          have hd1 : decide (y0 < 1) = false := decide_eq_false (by omega)
          by_cases ht : 0 ≤ y1 ∧ y1 ≤ 100000
          rotate_left
          · have HIT := Lib.hid (inB_no.2 ht)
            have HN := Lib.hid (HTN.out ht)
            clear ht HTN HTY HBN
            go_wp2_with (go_at_call 49; with_reducible refine (specIn_at HIT.out _).mono ?_; rintro e w4 ⟨rfl, rfl⟩)
            go_ret
            exact ⟨by rw [HN.out]; first | done | rfl, HBR.out.alloc (by omega) _⟩
          have HIT := Lib.hid (inB_iff.2 ht)
          have HT2 := Lib.hid (HTY.out ht)
          clear ht HTN HTY
          obtain ⟨gq, hfq⟩ := flat_of_list hoq
          have HFQ := Lib.hid hfq
          clear hfq
          have hh := (fun W (hW : Below wr.heap.size wr W) => sHas_any q.length (by unfold maxLen; omega) (fun j => q.getD j 0) pq cq gq 0 y0 W ((HFQ.out.below hW (Nat.le_refl _)).wide (Nat.zero_le _) hW.size))
          have HH := Lib.hid hh
          clear hh
          by_cases hmem : y0 ∈ q
          · have HN := Lib.hid (HBN.out (fun h => h.2 hmem))
            rw [decide_eq_true ((hasI_list q y0).2 hmem)] at HH
            clear hmem HBN
            go_wp2_with (first
              | (go_at_call 49; with_reducible refine (specIn_at HIT.out _).mono ?_; rintro e w4 ⟨rfl, rfl⟩)
              | (go_at_call 50; refine (HH.out _ ((Below.refl _ _).alloc (Nat.le_refl _) _)).mono ?_; rintro e w4 ⟨rfl, rfl⟩))
            go_ret
            exact ⟨by rw [HN.out]; first | done | rfl, HBR.out.alloc (by omega) _⟩
          have HB2 := Lib.hid (bgL_one.2 ⟨HBQ.out, hb1, hmem⟩)
          rw [decide_eq_false (fun h => hmem ((hasI_list q y0).1 h))] at HH
          clear hmem HBN HBQ
          go_wp2_with (first
            | (go_at_call 49; with_reducible refine (specIn_at HIT.out _).mono ?_; rintro e w4 ⟨rfl, rfl⟩)
            | (go_at_call 50; refine (HH.out _ ((Below.refl _ _).alloc (Nat.le_refl _) _)).mono ?_; rintro e w4 ⟨rfl, rfl⟩)
            | (at_builtin; refine wpList_append_own _ rfl _ _ 56 rfl (w.heap.size + 1) 3 i0 (.int .i64 0) 1 8 Try.underlying56 hi hz0 hz1 hz2 rfl (by decide) _ q.length _ rfl ((hoq.alloc _).alloc _) ⟨wr.heap.size + 1, 0, none⟩ 1 1 [.int .i64 y0] rfl rfl (by intro j u hj; match j, hj with | 0, hj => simp at hj; subst hj; simp [Addr.add]) (by intro u hu; simp at hu; rcases hu with rfl; rfl) (by unfold maxLen; omega) (by omega) (by simp; omega) ?_; intro v' w3 hown3 hgrow3 _))
          go_roundw
          case rel =>
            obtain ⟨g4, c4, rfl⟩ := ownsRow_succ hown3
            refine ⟨j + 1, some ⟨g4, 0, none⟩, c4, q ++ [y0], by omega, by congr 1, by rw [List.length_append]; rfl, by rw [HXL.out, List.length_append]; exact hown3, HQ2.out, HB2.out, HT2.out, ?_⟩
            exact Below.grown ((HBJ.out.alloc (by first | omega | (simp; omega)) _).alloc (by first | omega | (simp; omega)) _) hgrow3 (by first | omega | (simp; omega)) (fun j hj => (hoq.lt j hj).1)
          case measure => simp only [intOf]; omega
        · obtain rfl : j = m := by omega
          have HPP := Lib.hid (HYE.out ⟨hmD, HT.out⟩)
          have HQE := Lib.hid (HQ.out.trans HLE.out.symm)
          go_wp2_with fail
          go_roundw
          case rel => exact ⟨k + 1, pq, cq, q, by omega, by congr 1, rfl, hoq, HQE.out, HBQ.out, HPP.out, HBJ.out⟩
          case measure => simp only [intOf]; omega
    · obtain rfl : k = n := by omega
      have HE := Lib.hid (decide_eq_true (show stO D k nn xx from ⟨hD, ⟨by omega, by omega⟩, HP.out, by rw [← HL.out]; exact HBG.out⟩))
      go_wp2_with fail
      go_ret
      exact ⟨by rw [HE.out]; first | done | rfl, HBW.out⟩

end Go.Proofs.Ytokhkcebdbopcaa
