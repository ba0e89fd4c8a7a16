/- What the model's Buried returns. -/
import Derived.Test.YtokhkcebdbopcaaNextPlain
import Derived.Test.YtokhkcebdbopcaaStoreOkS
import Derived.Test.YtokhkcebdbopcaaLeast
namespace Go.Proofs.Ytokhkcebdbopcaa
open Go.RowKit
set_option linter.unusedVariables false

theorem cellsB4 {w : World} {k : Nat} {a b : Value} {t : TypeId} (h : w.heap[k]? = some (.cells #[a, b] t (0, 0))) :
    w.cell? ⟨k, 0, none⟩ = some a ∧ w.cell? ⟨k, 1, none⟩ = some b ∧ w.frozen? ⟨k, 0, none⟩ = false ∧ w.frozen? ⟨k, 1, none⟩ = false :=
  ⟨by simp [World.cell?, h], by simp [World.cell?, h], by simp [World.frozen?, h], by simp [World.frozen?, h]⟩

set_option maxRecDepth 100000 in
set_option maxHeartbeats 8000000 in
theorem sBuried_any (D : Int) (n : Nat) (hn : n ≤ maxLen) (p : Option Addr) (c : Nat) (nn : Nat → Nat) (hm : ∀ i, i < n → nn i ≤ maxLen) (xx : Nat → Nat → Int) (w : World) (h : LRd w (.slice p n c) n nn xx) :
    Calls Try.prog 26 #[.agg #[.int .i64 D, .slice p n c]] w fun e w' => e = .returned (.int .i64 (buB D n nn xx)) ∧ Below w.heap.size w w' := by
  have ck := cellsKeptS
  have hok := Lib.hid (fun W (hW : Below w.heap.size w W) => sStoreOk_any D n hn p c nn hm xx W (h.later hW))
  obtain ⟨R, hR⟩ : ∃ R, R = buB D n nn xx := ⟨_, rfl⟩
  rw [← hR]
  by_cases hst : stO D n nn xx
  rotate_left
  · simp only [decide_eq_false hst] at hok
    obtain rfl : R = -1 := by rw [hR]; exact if_neg hst
    clear hR hst h
    go_enter Try.func26, Try.ntmps26
    go_wp2_with (go_at_call 16; refine (hok.out _ (by repeat (first | exact Below.refl _ _ | refine Below.alloc ?_ (by simp <;> omega) _ | refine Below.drew ?_))).mono ?_; rintro e w2 ⟨rfl, hb2⟩; have HB2 := Lib.hid (below_via hb2 (B := w.heap.size) (w := w) (by repeat (first | exact Below.refl _ _ | refine Below.alloc ?_ (by simp <;> omega) _ | refine Below.drew ?_)) (by simp)); clear hb2)
    go_ret
    exact ⟨rfl, HB2.out⟩
  have HR0 := Lib.hid (show R = (buL nn xx n : Int) by rw [hR]; exact if_pos hst)
  have hn4 : n ≤ 4 := hst.2.1.2
  have hm5 : ∀ i, i < n → nn i ≤ 5 := fun i hi => by have := (hst.2.2.1 i hi).1; have := hst.1.2; omega
  have htm : ∀ i, i < n → tmOk (xx i) (nn i) := fun i hi => (hst.2.2.1 i hi).2
  simp only [decide_eq_true hst] at hok
  obtain ⟨p0, c0, g, o, s, he, hc, hf, hr⟩ := h
  injection he with e1 e2 e3
  subst e1 e3
  clear e2
  have H := Lib.hid hf
  have HR := Lib.hid hr
  have HM := Lib.hid hm5
  have HTM := Lib.hid htm
  clear hR hst hf hr hm hm5 htm
  go_enter Try.func26, Try.ntmps26
  go_wp2_with (go_at_call 16; refine (hok.out _ (by repeat (first | exact Below.refl _ _ | refine Below.alloc ?_ (by simp <;> omega) _ | refine Below.drew ?_))).mono ?_; rintro e w2 ⟨rfl, hb2⟩; have HB2 := Lib.hid (below_via hb2 (B := w.heap.size) (w := w) (by repeat (first | exact Below.refl _ _ | refine Below.alloc ?_ (by simp <;> omega) _ | refine Below.drew ?_)) (by simp)); have X2 := Lib.hid ((hb2.block w.heap.size (by simp)).trans (heap_new _ _ _ rfl)); have hs2 : w.heap.size < w2.heap.size := (by have := hb2.size; simp at this; omega); clear hb2)
  go_loopw [3, 4] (fun cv iv wr => ∃ (k q : Nat), k ≤ n ∧ iv = .int .i64 (k : Int) ∧ cv = .int .i64 (q : Int) ∧ Hid (q = buL nn xx k) ∧ q ≤ k * 5 ∧ Hid (Below w2.heap.size w2 wr)) (fun _ iv _ => n - (intOf iv).toNat)
  case atStart => exact ⟨0, 0, by omega, rfl, rfl, rfl, by omega, Below.refl _ _⟩
  case round =>
    obtain ⟨k, q, hk, rfl, rfl, HQ, hq, HB⟩ := hrel
    obtain ⟨-, b1, -, -⟩ := cellsB4 ((HB.out.block w.heap.size hs2).trans X2.out)
    have HBW := Lib.hid (HB2.out.trans (HB.out.mono (by omega)))
    by_cases hkn : k < n
    · obtain ⟨rfl, -, hg⟩ := H.out.1 (by omega)
      obtain ⟨p1, c1, g1, o1, e1, hc1, hf1⟩ := HR.out k hkn
      have hs0 := H.out.2 k hkn
      rw [e1] at hs0
      have hml := HM.out k hkn
      have HT := Lib.hid (HTM.out k hkn)
      have hk0 : (0 : Int) ≤ (k : Int) := by omega
      have hkl : (k : Int) < (n : Int) := by omega
      have hwk : IntKind.i64.wrap ((k : Int) + 1) = (k : Int) + 1 := IntWalk.i64_in _ (by omega)
      have HNX := Lib.hid (show q + buR (xx k) (nn k) = buL nn xx (k + 1) from by rw [HQ.out]; rfl)
      obtain ⟨m, hm⟩ : ∃ m, m = nn k := ⟨_, rfl⟩
      obtain ⟨x, hx⟩ : ∃ x, x = xx k := ⟨_, rfl⟩
      rw [← hm] at hs0 hf1 hml HNX HT hc1
      rw [← hx] at hf1 HNX HT
      have HFI := Lib.hid hf1
      have HS0 := Lib.hid hs0
      have HBO := Lib.hid HB.out
      clear hm hx e1 hf1 HB HQ hs0
      obtain ⟨wo, rfl⟩ : ∃ wo, wo = wr := ⟨_, rfl⟩
      go_wp2_with fail
      go_loopw [3, 5] (fun cv jv wr => ∃ (j r : Nat), (j ≤ m ∨ j = 1) ∧ 1 ≤ j ∧ jv = .int .i64 (j : Int) ∧ cv = .int .i64 (r : Int) ∧ Hid (r = q + buR x (min j m)) ∧ r ≤ q + j ∧ Hid (Below w2.heap.size w2 wr)) (fun _ jv _ => m - (intOf jv).toNat)
      case atStart =>
        refine ⟨1, q, .inr rfl, Nat.le_refl _, rfl, rfl, ?_, by omega, HBO.out⟩
        show q = q + buR x (min 1 m)
        rcases Nat.eq_zero_or_pos m with h0 | h0
        · rw [h0]; rfl
        · rw [show min 1 m = 1 by omega, buR_zero (by simpa using (HT.out 0 h0).2)]
          rfl
      case round =>
        obtain ⟨j, r, hj, hj1, rfl, rfl, HRR, hr, HB⟩ := hrel
        obtain ⟨-, b1, -, -⟩ := cellsB4 ((HB.out.block w.heap.size hs2).trans X2.out)
        have HBW := Lib.hid (HB2.out.trans (HB.out.mono (by omega)))
        have a0 := (HBW.out.cell (p := ⟨g, o + k, none⟩) hg).trans HS0.out
        have hj0 : (0 : Int) ≤ (j : Int) := by omega
        by_cases hjm : j < m
        · obtain ⟨rfl, -, hg1⟩ := HFI.out.1 (by omega)
          obtain ⟨a1, a2⟩ := HFI.out.at2 HBW.out (Nat.le_refl _) j (by omega)
          have hjl : (j : Int) < (m : Int) := by omega
          have hwj : IntKind.i64.wrap ((j : Int) + 1) = (j : Int) + 1 := IntWalk.i64_in _ (by omega)
          have hwr : IntKind.i64.wrap ((r : Int) + 1) = (r : Int) + 1 := IntWalk.i64_in _ (by omega)
          have hjc : (j : Int) ≤ (c1 : Int) := by omega
          have hjcN : j ≤ c1 := by omega
          have hmn : min j m = j := by omega
          have HNY := Lib.hid (fun (hh : lst x j < x (j * 2 + 1)) => show r + 1 = q + buR x (min (j + 1) m) from by
            rw [show min (j + 1) m = j + 1 by omega]
            show _ = q + (buR x j + if lst x j < x (j * 2 + 1) then 1 else 0)
            rw [if_pos hh]; have := HRR.out; rw [hmn] at this; omega)
          have HNN := Lib.hid (fun (hh : ¬ lst x j < x (j * 2 + 1)) => show r = q + buR x (min (j + 1) m) from by
            rw [show min (j + 1) m = j + 1 by omega]
            show _ = q + (buR x j + if lst x j < x (j * 2 + 1) then 1 else 0)
            rw [if_neg hh]; have := HRR.out; rw [hmn] at this; omega)
          have HLS := Lib.hid (fun (W : World) (hW : Below w.heap.size w W) => sLeast_any j (by unfold maxLen; omega) x (some ⟨g1, o1, none⟩) c1 g1 o1 W (((HFI.out.below hW (Nat.le_refl _)).wide (Nat.zero_le _) hW.size).less (by omega)))
          obtain ⟨ls, hls⟩ : ∃ l, l = lst x j := ⟨_, rfl⟩
          obtain ⟨v1, hv1⟩ : ∃ y, y = x (j * 2 + 1) := ⟨_, rfl⟩
          rw [← hv1] at a2 HNY HNN
          rw [← hls] at HLS HNY HNN
          clear hv1 HRR hls hmn
          by_cases hex : ls < v1
          · have HX := Lib.hid (HNY.out hex)
            have hd : decide (ls < v1) = true := decide_eq_true hex
            clear hex HNY HNN
            go_wp2_with fail
            go_quiet ((go_at_call 55; exact Calls.quiet_of_same (HLS.out _ (by first | exact HBW.out | exact below_drewN' HBW.out _))))
            go_wp2_with fail
            go_roundw
            case rel => exact ⟨j + 1, r + 1, .inl (by omega), by omega, by congr 1, by congr 1, HX.out, by omega, below_drewN' HB.out _⟩
            case measure => simp only [intOf]; omega
          · have HX := Lib.hid (HNN.out hex)
            have hd : decide (ls < v1) = false := decide_eq_false hex
            clear hex HNY HNN
            go_wp2_with fail
            go_quiet ((go_at_call 55; exact Calls.quiet_of_same (HLS.out _ (by first | exact HBW.out | exact below_drewN' HBW.out _))))
            go_wp2_with fail
            go_roundw
            case rel => exact ⟨j + 1, r, .inl (by omega), by omega, by congr 1, rfl, HX.out, by omega, below_drewN' HB.out _⟩
            case measure => simp only [intOf]; omega
        · have HE := Lib.hid (show r = buL nn xx (k + 1) from by rw [HRR.out, show min j m = m by omega]; exact HNX.out)
          have hrk : r ≤ (k + 1) * 5 := by
            have h1 := HRR.out
            rw [show min j m = m by omega] at h1
            have := buR_le x m
            omega
          have hjl : ¬ ((j : Int) < (m : Int)) := by omega
          clear HRR HNX
          go_wp2_with fail
          go_roundw
          case rel => exact ⟨k + 1, r, by omega, by congr 1, rfl, HE.out, hrk, HB.out⟩
          case measure => simp only [intOf]; omega
    · obtain rfl : k = n := by omega
      obtain rfl : R = (q : Int) := by rw [HR0.out, ← HQ.out]
      go_wp2_with fail
      go_ret
      exact ⟨rfl, HBW.out⟩

end Go.Proofs.Ytokhkcebdbopcaa
