/- What the model's MostServed returns. -/
import Derived.Test.YtkdlhapbbnggoaaPickRow
import Derived.Test.YtkdlhapbbnggoaaRowImage
import Derived.Laws.OwnMore
import Derived.Test.YtkdlhapbbnggoaaDroppedS
namespace Go.Proofs.Ytkdlhapbbnggoaa
open Go.RowKit
set_option linter.unusedVariables false

set_option maxRecDepth 100000 in
set_option maxHeartbeats 8000000 in
theorem sMost_v (n : Nat) (hn : n ≤ maxLen) (z : Nat → Int) (v : Value) (t s : Int) (w : World) (h : Rd w v n (n * 2) z) :
    Calls Try.prog 45 #[v, .int .i64 t, .int .i64 s] w fun e w' => e = .returned (.int .i64 (msI n z t s)) ∧ Below w.heap.size w w' := by
  obtain ⟨i0, hi, hz0, hz1, hz2⟩ := info_parts infoImage
  have c3 := cellsImage
  have hcon := Lib.hid (fun W (hW : Below w.heap.size w W) => sRight_v n hn z v t s W (h.later hW))
  obtain ⟨p, c, g, o, rfl, hnc, hfl⟩ := h
  unfold maxLen at hn
  by_cases hv : SvP n z t s
  rotate_left
  · have HN := Lib.hid (msI_no (fun h => hv h.1))
    rw [svOk_no hv] at hcon
    go_enter Try.func45, Try.ntmps45
    go_wp2_with fail
    refine (hcon.out _ (Below.refl _ _)).mono ?_
    rintro e w1 ⟨rfl, hb⟩
    go_wp2_with fail
    go_ret
    exact ⟨by rw [HN.out]; rfl, hb⟩
  rw [svOk_yes hv] at hcon
  by_cases h10 : n ≤ 10
  rotate_left
  · have HN : Hid (msI n z t s = -1) := msI_no (fun h => h10 h.2)
    have hd10 : decide (10 < (n : Int)) = true := decide_eq_true (by omega)
    go_enter Try.func45, Try.ntmps45
    go_wp2_with fail
    refine (hcon.out _ (Below.refl _ _)).mono ?_
    rintro e w1 ⟨rfl, hb⟩
    go_wp2_with fail
    go_ret
    exact ⟨by rw [HN.out]; rfl, hb⟩
  have hN := msI_yes hv h10
  obtain ⟨m, hm⟩ : ∃ m, m = s.toNat := ⟨_, rfl⟩
  rw [← hm] at hN
  have hpick := Lib.hid (fun q : Nat => drI_yes (hv.pk q))
  rw [← hm] at hpick
  obtain ⟨P, hP⟩ : ∃ P : Nat, P = 2 ^ n := ⟨_, rfl⟩
  rw [← hP] at hN
  have hP9 : P ≤ 1024 := by rw [hP]; exact Nat.pow_le_pow_right (by omega) h10
  have hsh : wrap64 (2 ^ n) = (P : Int) := by
    have : ((2 : Int) ^ n) = ((2 ^ n : Nat) : Int) := by simp
    rw [this, ← hP]
    exact IntWalk.wrap64_in _ (by omega)
  obtain ⟨M, hM⟩ : ∃ M, M = msK n z t m := ⟨_, rfl⟩
  rw [← hM] at hN
  have hM0 : M 0 = 0 := by rw [hM]; rfl
  have hMs : ∀ q, M (q + 1) = if drK t m (pkZ q z n) (pkN q n) = 0 ∧ M q < pkN q n then pkN q n else M q := fun q => by rw [hM]; rfl
  have hMl : ∀ q, M q ≤ n := fun q => by rw [hM]; exact msK_le q
  have HN := Lib.hid hN
  have HM0 := Lib.hid hM0
  have HMS := Lib.hid hMs
  have HML := Lib.hid hMl
  have HF := Lib.hid hfl
  have hd10 : decide (10 < (n : Int)) = false := decide_eq_false (by omega)
  have hdr := Lib.hid (fun (q : Nat) (v' : Value) W (hr : Rd W v' (pkN q n) (pkN q n * 2) (pkZ q z n)) => sDropped_v (pkN q n) (by have := pkN_le (set := q) n; unfold maxLen; omega) (pkZ q z n) v' t s W hr)
  have hn64 : (n : Int) ≤ 64 := by omega
  have hnn0 : 0 ≤ (n : Int) := by omega
  clear hm hP hM hM0 hMs hMl hN hv hfl
  go_enter Try.func45, Try.ntmps45
  go_wp2_with fail
  refine (hcon.out _ (Below.refl _ _)).mono ?_
  rintro e w1 ⟨rfl, hb1⟩
  have HB1 := Lib.hid hb1
  clear hb1
  go_wp2_with fail
  go_loopw [7, 8] (fun bv v wr => ∃ k : Nat, k ≤ P ∧ v = .int .i64 (k : Int) ∧ bv = .int .i64 ((M k : Nat) : Int) ∧ Below w.heap.size w wr) (fun _ v _ => P - (intOf v).toNat)
  case atStart => exact ⟨0, by omega, rfl, by rw [HM0.out]; rfl, HB1.out⟩
  case round =>
    obtain ⟨k, hk, rfl, rfl, hbw⟩ := hrel
    obtain ⟨wo, rfl⟩ : ∃ x, x = wr := ⟨_, rfl⟩
    by_cases hkP : k < P
    · have hds := HMS.out k
      have hml := HML.out k
      have hpn := pkN_le (set := k) n
      have hcall := fun v' W hr => hdr.out k v' W hr
      rw [hpick.out k] at hcall
      obtain ⟨d, hd⟩ : ∃ d, d = drK t m (pkZ k z n) (pkN k n) := ⟨_, rfl⟩
      obtain ⟨b, hbb⟩ : ∃ b, b = M k := ⟨_, rfl⟩
      obtain ⟨N, hNN⟩ : ∃ N, N = pkN k n := ⟨_, rfl⟩
      obtain ⟨Z, hZ⟩ : ∃ Z, Z = pkZ k z n := ⟨_, rfl⟩
      rw [← hd] at hcall hds
      rw [← hbb] at hds hml ⊢
      rw [← hNN] at hcall hds hpn
      rw [← hZ] at hcall
      have HNN := Lib.hid hNN
      have HZ := Lib.hid hZ
      have HDS := Lib.hid hds
      have HCALL := Lib.hid hcall
      have HBW := Lib.hid hbw
      have hk0 : (0 : Int) ≤ (k : Int) := by omega
      have hkl : (k : Int) < (P : Int) := by omega
      have hk1024 : k < 1000000 := by omega
      clear hds hcall hd hbb hNN hZ hbw
      go_wp2_with fail
      try simp only [hsh]
      go_loopw [9, 10] (fun ov v wi => ∃ j q : Nat, j ≤ n ∧ v = .int .i64 (j : Int) ∧ Hid (q = pkN k j) ∧ wi.ownsRow w.heap.size 65 2 ov q (pkC k z j) ∧ Below w.heap.size w wi) (fun _ v _ => n - (intOf v).toNat)
      case atStart => exact ⟨0, 0, by omega, rfl, rfl, ⟨rfl, .inr ⟨wo.heap.size, 0, #[], rfl, HBW.out.size, heap_alloc_new wo _, Nat.le_refl _, by unfold maxLen; omega, rfl, rfl⟩⟩, HBW.out.alloc HBW.out.size _⟩
      case round =>
        obtain ⟨j, q, hj, rfl, HQ, hown, hbw⟩ := hrel
        obtain ⟨wi, rfl⟩ : ∃ x, x = wr := ⟨_, rfl⟩
        by_cases hjn : j < n
        · obtain ⟨rfl, -, hg⟩ := HF.out.1 (by omega)
          obtain ⟨a0, a1⟩ := HF.out.at2 hbw (Nat.le_refl _) j (by omega)
          have hj0 : (0 : Int) ≤ (j : Int) := by omega
          have hjl : (j : Int) < (n : Int) := by omega
          have hj9 : (j : Int) ≤ 15 := by omega
          have hq16 : q ≤ 16 := by have := HQ.out; have := pkN_le (set := k) j; omega
          obtain ⟨x0, hx0⟩ : ∃ x, x = z (j * 2) := ⟨_, rfl⟩
          obtain ⟨x1, hx1⟩ : ∃ x, x = z (j * 2 + 1) := ⟨_, rfl⟩
          rw [← hx0] at a0
          rw [← hx1] at a1
          by_cases hb : k / 2 ^ j % 2 = 1
          · have hbit := bit_yes hk1024 hb
            have HC : Hid (pkC k z j ++ [.int .i64 x0, .int .i64 x1] = pkC k z (j + 1)) := by rw [pkC_yes hb, hx0, hx1]; exact rfl
            have HQ1 : Hid (q + 1 = pkN k (j + 1)) := by rw [pkN_yes hb, ← HQ.out]; exact rfl
            have HOWN := Lib.hid hown
            have HBI := Lib.hid hbw
            clear hb hx0 hx1 hown hbw
            go_wp2_with (at_builtin; refine wpList_append_own _ rfl _ _ 49 rfl w.heap.size 65 i0 (.agg #[.int .i64 0, .int .i64 0]) 2 16 Try.underlying49 hi hz0 hz1 hz2 rfl (by decide) _ q _ rfl (HOWN.out.alloc _) ⟨wi.heap.size, 0, none⟩ 1 1 [.int .i64 x0, .int .i64 x1] rfl rfl (by intro j u hj; match j, hj with | 0, hj => simp at hj; subst hj; simp [Addr.add] | 1, hj => simp at hj; subst hj; simp [Addr.add]) (by intro u hu; simp at hu; rcases hu with rfl | rfl <;> rfl) (by unfold maxLen; omega) (by omega) (by have := HBI.out.size; simp; omega) ?_; intro v' w3 hown3 hgrow3 _)
            have hbw3 : Below w.heap.size w w3 := (HBI.out.alloc HBI.out.size _).grown hgrow3 (by have := HBI.out.size; simp; omega) (fun j hj => (HOWN.out.lt j hj).1)
            rw [HC.out] at hown3
            have HO3 := Lib.hid hown3
            clear hown3 hgrow3
            go_wp2_with fail
            go_roundw
            case rel => exact ⟨j + 1, q + 1, by omega, by congr 1, HQ1.out, HO3.out, hbw3⟩
            case measure => simp only [intOf]; omega
          · have hbit := bit_no hk1024 hb
            have HC : Hid (pkC k z j = pkC k z (j + 1)) := (pkC_no hb).symm
            have HQ1 : Hid (q = pkN k (j + 1)) := by rw [pkN_no hb, ← HQ.out]; exact rfl
            have HOWN := Lib.hid hown
            have HBI := Lib.hid hbw
            clear hb hx0 hx1 hown hbw
            go_wp2_with fail
            go_roundw
            case rel => exact ⟨j + 1, q, by omega, by congr 1, HQ1.out, by rw [← HC.out]; exact HOWN.out, HBI.out⟩
            case measure => simp only [intOf]; omega
        · obtain rfl : j = n := by omega
          have HBI := Lib.hid hbw
          have HR : Hid (Rd wi u9 N (N * 2) Z) := by
            rw [HNN.out, HZ.out]
            have h1 := Own.of_own (z := pkZ k z j) hown (fun i hi => pkC_at i (by rw [← HQ.out]; exact hi))
            rw [HQ.out] at h1
            exact h1.rd (Nat.le_refl _)
          obtain ⟨p2, c2, g2, o2, rfl, -⟩ := HR.out
          clear hown hbw
          by_cases hlt : b < N
          · have hltd : decide ((b : Int) < (N : Int)) = true := decide_eq_true (by omega)
            by_cases hd0 : d = 0
            · have HE : Hid (M (k + 1) = N) := HDS.out.trans (if_pos ⟨hd0, hlt⟩)
              subst hd0
              go_wp2_with fail
              refine (HCALL.out _ _ HR.out).mono ?_
              rintro e w3 ⟨rfl, hb3⟩
              have HB3 := Lib.hid (HBI.out.trans (hb3.mono HBI.out.size))
              clear hb3
              go_wp2_with fail
              go_roundw
              case rel => exact ⟨k + 1, by omega, by congr 1, by rw [HE.out], HB3.out⟩
              case measure => simp only [intOf]; omega
            · have hdd : ((d : Int) == 0) = false := by simpa using (show ¬ (d : Int) = 0 by omega)
              have HE : Hid (M (k + 1) = b) := HDS.out.trans (if_neg (fun h => hd0 h.1))
              go_wp2_with fail
              refine (HCALL.out _ _ HR.out).mono ?_
              rintro e w3 ⟨rfl, hb3⟩
              have HB3 := Lib.hid (HBI.out.trans (hb3.mono HBI.out.size))
              clear hb3
              go_wp2_with fail
              go_roundw
              case rel => exact ⟨k + 1, by omega, by congr 1, by rw [HE.out], HB3.out⟩
              case measure => simp only [intOf]; omega
          · have hltd : decide ((b : Int) < (N : Int)) = false := decide_eq_false (by omega)
            have HE : Hid (M (k + 1) = b) := HDS.out.trans (if_neg (fun h => hlt h.2))
            go_wp2_with fail
            go_roundw
            case rel => exact ⟨k + 1, by omega, by congr 1, by rw [HE.out], HBI.out⟩
            case measure => simp only [intOf]; omega
    · obtain rfl : k = P := by omega
      go_wp2_with fail
      go_ret
      exact ⟨by rw [HN.out]; rfl, hbw⟩

end Go.Proofs.Ytkdlhapbbnggoaa
