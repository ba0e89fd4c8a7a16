/- What the program's Buried returns. -/
import Derived.Test.YtokhkcebdbopcaaNextPlain
import Derived.Test.YtokhkcebdbopcaaStoreOkI
import Derived.Test.YtokhkcebdbopcaaBurCl
namespace Go.Proofs.Ytokhkcebdbopcaa
open Go.RowKit
set_option linter.unusedVariables false

theorem cellsB3 {w : World} {k : Nat} {a b : Value} {t : TypeId} (h : w.heap[k]? = some (.cells #[a, b] t (0, 0))) :
    w.cell? ⟨k, 0, none⟩ = some a ∧ w.cell? ⟨k, 1, none⟩ = some b ∧ w.frozen? ⟨k, 0, none⟩ = false ∧ w.frozen? ⟨k, 1, none⟩ = false :=
  ⟨by simp [World.cell?, h], by simp [World.cell?, h], by simp [World.frozen?, h], by simp [World.frozen?, h]⟩

set_option maxRecDepth 100000 in
set_option maxHeartbeats 8000000 in
theorem iBuried_any (D : Int) (n : Nat) (hn : n ≤ maxLen) (p : Option Addr) (c : Nat) (nn : Nat → Nat) (hm : ∀ i, i < n → nn i ≤ maxLen) (xx : Nat → Nat → Int) (w : World) (h : LRd w (.slice p n c) n nn xx) (hwf : ∀ i, i < n → ∀ j, j < nn i * 2 → (Lit.int .i64 (xx i j)).wf = true) :
    Calls Try.prog 27 #[.agg #[.int .i64 D, .slice p n c]] w fun e w' => e = .returned (.int .i64 (buB D n nn xx)) ∧ Below w.heap.size w w' := by
  have ck := cellsKept2
  have hok := Lib.hid (fun W (hW : Below w.heap.size w W) => iStoreOk_any D n hn p c nn hm xx W (h.later hW) hwf)
  obtain ⟨R, hR⟩ : ∃ R, R = buB D n nn xx := ⟨_, rfl⟩
  rw [← hR]
  by_cases hst : stO D n nn xx
  rotate_left
  · simp only [decide_eq_false hst] at hok
    obtain rfl : R = -1 := by rw [hR]; exact if_neg hst
    clear hR hst h hwf
    go_enter Try.func27, Try.ntmps27
    go_wp2_with (go_at_call 18; refine (hok.out _ (by repeat (first | exact Below.refl _ _ | refine Below.alloc ?_ (by simp <;> omega) _ | refine Below.drew ?_))).mono ?_; rintro e w2 ⟨rfl, hb2⟩; have HB2 := Lib.hid (below_via hb2 (B := w.heap.size) (w := w) (by repeat (first | exact Below.refl _ _ | refine Below.alloc ?_ (by simp <;> omega) _ | refine Below.drew ?_)) (by simp)); clear hb2)
    go_ret
    exact ⟨rfl, HB2.out⟩
  have HR0 := Lib.hid (show R = (buL nn xx n : Int) by rw [hR]; exact if_pos hst)
  have hn4 : n ≤ 4 := hst.2.1.2
  have hm5 : ∀ i, i < n → nn i ≤ 5 := fun i hi => by have := (hst.2.2.1 i hi).1; have := hst.1.2; omega
  have htm : ∀ i, i < n → tmOk (xx i) (nn i) := fun i hi => (hst.2.2.1 i hi).2
  simp only [decide_eq_true hst] at hok
  obtain ⟨p0, c0, g, o, s, he, hc, hf, hr⟩ := h
  injection he with e1 e2 e3
  subst e1 e3
  clear e2
  have H := Lib.hid hf
  have HR := Lib.hid hr
  have HM := Lib.hid hm5
  have HTM := Lib.hid htm
  clear hR hst hf hr hm hm5 htm hwf
  go_enter Try.func27, Try.ntmps27
  go_wp2_with (go_at_call 18; refine (hok.out _ (by repeat (first | exact Below.refl _ _ | refine Below.alloc ?_ (by simp <;> omega) _ | refine Below.drew ?_))).mono ?_; rintro e w2 ⟨rfl, hb2⟩; have HB2 := Lib.hid (below_via hb2 (B := w.heap.size) (w := w) (by repeat (first | exact Below.refl _ _ | refine Below.alloc ?_ (by simp <;> omega) _ | refine Below.drew ?_)) (by simp)); have X2 := (hb2.block w.heap.size (by simp)).trans (heap_new _ _ _ rfl); obtain ⟨b0, b1, -, -⟩ := cellsB3 X2; clear hb2 X2)
  go_loopw [3, 14] (fun cv iv wr => ∃ (k q : Nat), k ≤ n ∧ iv = .int .i64 (k : Int) ∧ cv = .int .i64 (q : Int) ∧ Hid (q = buL nn xx k) ∧ q ≤ k * 5 ∧ Hid (Below w.heap.size w wr)) (fun _ iv _ => n - (intOf iv).toNat)
  case atStart => exact ⟨0, 0, by omega, rfl, rfl, rfl, by omega, HB2.out⟩
  case round =>
    obtain ⟨k, q, hk, rfl, rfl, HQ, hq, HB⟩ := hrel
    by_cases hkn : k < n
    · obtain ⟨rfl, -, hg⟩ := H.out.1 (by omega)
      obtain ⟨p1, c1, g1, o1, e1, hc1, hf1⟩ := HR.out k hkn
      have a0 := (HB.out.cell (p := ⟨g, o + k, none⟩) hg).trans (H.out.2 k hkn)
      rw [e1] at a0
      have hml := HM.out k hkn
      have HT := Lib.hid (HTM.out k hkn)
      have hk0 : (0 : Int) ≤ (k : Int) := by omega
      have hkl : (k : Int) < (n : Int) := by omega
      have hwk : IntKind.i64.wrap ((k : Int) + 1) = (k : Int) + 1 := IntWalk.i64_in _ (by omega)
      have HNX := Lib.hid (show q + buR (xx k) (nn k) = buL nn xx (k + 1) from by rw [HQ.out]; rfl)
      obtain ⟨m, hm⟩ : ∃ m, m = nn k := ⟨_, rfl⟩
      obtain ⟨x, hx⟩ : ∃ x, x = xx k := ⟨_, rfl⟩
      rw [← hm] at a0 hf1 hml HNX HT hc1
      rw [← hx] at hf1 HNX HT
      have HFI := Lib.hid hf1
      have HBO := Lib.hid HB.out
      clear hm hx e1 hf1 HB HQ
      obtain ⟨wo, rfl⟩ : ∃ wo, wo = wr := ⟨_, rfl⟩
      go_wp2_with fail
      go_loopw [3, 20] (fun cv jv wr => ∃ (j r : Nat), j ≤ m ∧ jv = .int .i64 (j : Int) ∧ cv = .int .i64 (r : Int) ∧ Hid (r = q + buR x j) ∧ r ≤ q + j ∧ Hid (Below w.heap.size w wr)) (fun _ jv _ => m - (intOf jv).toNat)
      case atStart => exact ⟨0, q, by omega, rfl, rfl, rfl, by omega, HBO.out⟩
      case round =>
        obtain ⟨j, r, hj, rfl, rfl, HRR, hr, HB⟩ := hrel
        by_cases hjm : j < m
        · obtain ⟨rfl, -, hg1⟩ := HFI.out.1 (by omega)
          obtain ⟨a1, a2⟩ := HFI.out.at2 HB.out (Nat.le_refl _) j (by omega)
          have hj0 : (0 : Int) ≤ (j : Int) := by omega
          have hjl : (j : Int) < (m : Int) := by omega
          have hwj : IntKind.i64.wrap ((j : Int) + 1) = (j : Int) + 1 := IntWalk.i64_in _ (by omega)
          have hwr : IntKind.i64.wrap ((r : Int) + 1) = (r : Int) + 1 := IntWalk.i64_in _ (by omega)
          have hjc : (j : Int) ≤ (c1 : Int) := by omega
          have hjcN : j ≤ c1 := by omega
          have hszw := HB.out.size
          have HNY := Lib.hid (fun (hh : ∃ i, i < j ∧ x (i * 2 + 1) < x (j * 2 + 1)) => show r + 1 = q + buR x (j + 1) from by
            show _ = q + (buR x j + if lst x j < x (j * 2 + 1) then 1 else 0)
            rw [if_pos ((lst_lt (HT.out j hjm).2 j).2 hh), HRR.out]; omega)
          have HNN := Lib.hid (fun (hh : ¬ ∃ i, i < j ∧ x (i * 2 + 1) < x (j * 2 + 1)) => show r = q + buR x (j + 1) from by
            show _ = q + (buR x j + if lst x j < x (j * 2 + 1) then 1 else 0)
            rw [if_neg (fun h => hh ((lst_lt (HT.out j hjm).2 j).1 h)), HRR.out]; omega)
          have HCL := Lib.hid (fun (W : World) (b : Nat) (T : Int) (t : Bool) (hW : Below w.heap.size w W) (hbT : W.cell? ⟨b, 1, none⟩ = some (.int .i64 T)) (hlt : b < W.heap.size) (ht : t = true ↔ ∃ i, i < j ∧ x (i * 2 + 1) < T) =>
            burCl_any j (by unfold maxLen; omega) x (some ⟨g1, o1, none⟩) c1 g1 o1 T b W hbT hlt (((HFI.out.below hW (Nat.le_refl _)).wide (Nat.zero_le _) hW.size).less (by omega)) t ht)
          obtain ⟨v0, hv0⟩ : ∃ y, y = x (j * 2) := ⟨_, rfl⟩
          obtain ⟨v1, hv1⟩ : ∃ y, y = x (j * 2 + 1) := ⟨_, rfl⟩
          rw [← hv0] at a1
          rw [← hv1] at a2 HNY HNN
          clear hv0 hv1 HRR
          obtain ⟨WA, hWA⟩ : ∃ WA, WA = wr.alloc (.cells #[.int .i64 v0, .int .i64 v1] 49) := ⟨_, rfl⟩
          have hba : Below w.heap.size w WA := by rw [hWA]; exact HB.out.alloc hszw _
          have hTA : WA.cell? ⟨wr.heap.size, 1, none⟩ = some (.int .i64 v1) := by rw [hWA]; simp
          have hLA : wr.heap.size < WA.heap.size := by rw [hWA]; simp
          by_cases hex : ∃ i, i < j ∧ x (i * 2 + 1) < v1
          · have hc := HCL.out WA wr.heap.size v1 true hba hTA hLA ⟨fun _ => hex, fun _ => rfl⟩
            have HX := Lib.hid (HNY.out hex)
            have HBA := Lib.hid hba
            rw [hWA] at hc
            have HC := Lib.hid hc
            have HWA := Lib.hid hWA
            clear hex HNY HNN HCL hc hba hTA hLA hWA
            go_wp2_with (go_at_call 65; refine HC.out.mono ?_; rintro e w5 ⟨rfl, hb5⟩)
            go_roundw
            case rel => exact ⟨j + 1, r + 1, by omega, by congr 1, by congr 1, HX.out, by omega, HBA.out.trans (by rw [HWA.out]; exact hb5.mono (by simp; omega))⟩
            case measure => simp only [intOf]; omega
          · have hc := HCL.out WA wr.heap.size v1 false hba hTA hLA ⟨fun h => absurd h (by decide), fun h => absurd h hex⟩
            have HX := Lib.hid (HNN.out hex)
            have HBA := Lib.hid hba
            rw [hWA] at hc
            have HC := Lib.hid hc
            have HWA := Lib.hid hWA
            clear hex HNY HNN HCL hc hba hTA hLA hWA
            go_wp2_with (go_at_call 65; refine HC.out.mono ?_; rintro e w5 ⟨rfl, hb5⟩)
            go_roundw
            case rel => exact ⟨j + 1, r, by omega, by congr 1, rfl, HX.out, by omega, HBA.out.trans (by rw [HWA.out]; exact hb5.mono (by simp; omega))⟩
            case measure => simp only [intOf]; omega
        · obtain rfl : j = m := by omega
          have HE := Lib.hid (HRR.out.trans HNX.out)
          clear HRR HNX
          go_wp2_with fail
          go_roundw
          case rel => exact ⟨k + 1, r, by omega, by congr 1, rfl, HE.out, by omega, HB.out⟩
          case measure => simp only [intOf]; omega
    · obtain rfl : k = n := by omega
      obtain rfl : R = (q : Int) := by rw [HR0.out, ← HQ.out]
      go_wp2_with fail
      go_ret
      exact ⟨rfl, HB.out⟩

end Go.Proofs.Ytokhkcebdbopcaa
