/- What the program's MostServed returns. -/
import Derived.Test.YtkdlhapbbnggoaaImagesOf
import Derived.Test.YtkdlhapbbnggoaaDroppedI
namespace Go.Proofs.Ytkdlhapbbnggoaa
open Go.RowKit
set_option linter.unusedVariables false

set_option maxRecDepth 100000 in
set_option maxHeartbeats 8000000 in
theorem iMost_v (n : Nat) (hn : n ≤ maxLen) (z : Nat → Int) (v : Value) (t s : Int) (w : World) (h : Rd w v n (n * 2) z) :
    Calls Try.prog 46 #[v, .int .i64 t, .int .i64 s] w fun e w' => e = .returned (.int .i64 (msI n z t s)) ∧ Below w.heap.size w w' := by
  have hcon := Lib.hid (fun W (hW : Below w.heap.size w W) => iServeOk_v n hn z v t s W (h.later hW))
  obtain ⟨p, c, g, o, rfl, hnc, hfl⟩ := h
  unfold maxLen at hn
  by_cases hv : SvP n z t s
  rotate_left
  · have HN := Lib.hid (msI_no (fun h => hv h.1))
    rw [svOk_no hv] at hcon
    go_enter Try.func46, Try.ntmps46
    go_wp2_with fail
    refine (hcon.out _ (Below.refl _ _)).mono ?_
    rintro e w1 ⟨rfl, hb⟩
    go_wp2_with fail
    go_ret
    exact ⟨by rw [HN.out]; rfl, hb⟩
  rw [svOk_yes hv] at hcon
  by_cases h10 : n ≤ 10
  rotate_left
  · have HN : Hid (msI n z t s = -1) := msI_no (fun h => h10 h.2)
    have hd10 : decide (10 < (n : Int)) = true := decide_eq_true (by omega)
    go_enter Try.func46, Try.ntmps46
    go_wp2_with fail
    refine (hcon.out _ (Below.refl _ _)).mono ?_
    rintro e w1 ⟨rfl, hb⟩
    go_wp2_with fail
    go_ret
    exact ⟨by rw [HN.out]; rfl, hb⟩
  have hN := msI_yes hv h10
  obtain ⟨m, hm⟩ : ∃ m, m = s.toNat := ⟨_, rfl⟩
  rw [← hm] at hN
  have hpick := Lib.hid (fun q : Nat => drI_yes (hv.pk q))
  rw [← hm] at hpick
  obtain ⟨P, hP⟩ : ∃ P : Nat, P = 2 ^ n := ⟨_, rfl⟩
  rw [← hP] at hN
  have hP9 : P ≤ 1024 := by rw [hP]; exact Nat.pow_le_pow_right (by omega) h10
  have hsh : wrap64 (2 ^ n) = (P : Int) := by
    have : ((2 : Int) ^ n) = ((2 ^ n : Nat) : Int) := by simp
    rw [this, ← hP]
    exact IntWalk.wrap64_in _ (by omega)
  obtain ⟨M, hM⟩ : ∃ M, M = msK n z t m := ⟨_, rfl⟩
  rw [← hM] at hN
  have hM0 : M 0 = 0 := by rw [hM]; rfl
  have hMs : ∀ q, M (q + 1) = if drK t m (pkZ q z n) (pkN q n) = 0 ∧ M q < pkN q n then pkN q n else M q := fun q => by rw [hM]; rfl
  have hMl : ∀ q, M q ≤ n := fun q => by rw [hM]; exact msK_le q
  have HN := Lib.hid hN
  have HM0 := Lib.hid hM0
  have HMS := Lib.hid hMs
  have HML := Lib.hid hMl
  have HF := Lib.hid hfl
  have hd10 : decide (10 < (n : Int)) = false := decide_eq_false (by omega)
  have hdr := Lib.hid (fun (q : Nat) (v' : Value) W (hr : Rd W v' (pkN q n) (pkN q n * 2) (pkZ q z n)) => iDropped_v (pkN q n) (by have := pkN_le (set := q) n; unfold maxLen; omega) (pkZ q z n) v' t s W hr)
  have hn64 : (n : Int) ≤ 64 := by omega
  have hnn0 : 0 ≤ (n : Int) := by omega
  clear hm hP hM hM0 hMs hMl hN hv hfl
  go_enter Try.func46, Try.ntmps46
  go_wp2_with fail
  refine (hcon.out _ (Below.refl _ _)).mono ?_
  rintro e w1 ⟨rfl, hb1⟩
  have HB1 := Lib.hid hb1
  clear hb1
  go_wp2_with fail
  simp only [hsh]
  clear hsh
  go_loopw [7, 23] (fun bv v wr => ∃ k : Nat, k ≤ P ∧ v = .int .i64 (k : Int) ∧ bv = .int .i64 ((M k : Nat) : Int) ∧ Below w.heap.size w wr) (fun _ v _ => P - (intOf v).toNat)
  case atStart => exact ⟨0, by omega, rfl, by rw [HM0.out]; rfl, HB1.out⟩
  case round =>
    obtain ⟨k, hk, rfl, rfl, hbw⟩ := hrel
    by_cases hkP : k < P
    · have hds := HMS.out k
      have hml := HML.out k
      have hpn := pkN_le (set := k) n
      have hcall := fun v' W hr => hdr.out k v' W hr
      rw [hpick.out k] at hcall
      have himg := imagesOf_v n (by omega) z k (by omega) (.slice p n c) wr ⟨p, c, g, o, rfl, hnc, (HF.out.below hbw (Nat.le_refl _)).wide (Nat.zero_le _) hbw.size⟩
      obtain ⟨d, hd⟩ : ∃ d, d = drK t m (pkZ k z n) (pkN k n) := ⟨_, rfl⟩
      obtain ⟨b, hbb⟩ : ∃ b, b = M k := ⟨_, rfl⟩
      obtain ⟨N, hNN⟩ : ∃ N, N = pkN k n := ⟨_, rfl⟩
      obtain ⟨Z, hZ⟩ : ∃ Z, Z = pkZ k z n := ⟨_, rfl⟩
      rw [← hd] at hcall hds
      rw [← hbb] at hds hml ⊢
      rw [← hNN] at hcall hds hpn himg
      rw [← hZ] at hcall himg
      have HDS := Lib.hid hds
      have HCALL := Lib.hid hcall
      have HIMG := Lib.hid himg
      have hk0 : (0 : Int) ≤ (k : Int) := by omega
      have hkl : (k : Int) < (P : Int) := by omega
      clear hds hcall himg hd hbb hNN hZ
      by_cases hd0 : d = 0
      · subst hd0
        by_cases hlt : b < N
        · have HE : Hid (M (k + 1) = N) := HDS.out.trans (if_pos ⟨rfl, hlt⟩)
          have hlti : (b : Int) < (N : Int) := by omega
          go_wp2_with fail
          refine HIMG.out.mono ?_
          rintro e w2 ⟨v2, rfl, ho2, hb2⟩
          have HB2 := Lib.hid (hbw.trans (hb2.mono hbw.size))
          have HR2 := Lib.hid (ho2.rd (Nat.le_refl _))
          obtain ⟨p2, c2, g2, o2, rfl, hc2, -⟩ := ho2
          clear hb2
          go_wp2_with fail
          refine (HCALL.out _ _ HR2.out).mono ?_
          rintro e w3 ⟨rfl, hb3⟩
          have HB3 := Lib.hid (HB2.out.trans (hb3.mono HB2.out.size))
          clear hb3
          go_wp2_with fail
          go_roundw
          case rel => exact ⟨k + 1, by omega, by congr 1, by rw [HE.out], HB3.out⟩
          case measure => simp only [intOf]; omega
        by_cases heq : b = N
        · have HE : Hid (M (k + 1) = b) := HDS.out.trans (if_neg (fun h => by omega))
          subst heq
          go_wp2_with fail
          refine HIMG.out.mono ?_
          rintro e w2 ⟨v2, rfl, ho2, hb2⟩
          have HB2 := Lib.hid (hbw.trans (hb2.mono hbw.size))
          have HR2 := Lib.hid (ho2.rd (Nat.le_refl _))
          obtain ⟨p2, c2, g2, o2, rfl, hc2, -⟩ := ho2
          clear hb2
          go_wp2_with fail
          refine (HCALL.out _ _ HR2.out).mono ?_
          rintro e w3 ⟨rfl, hb3⟩
          have HB3 := Lib.hid (HB2.out.trans (hb3.mono HB2.out.size))
          clear hb3
          go_wp2_with fail
          go_roundw
          case rel => exact ⟨k + 1, by omega, by congr 1, by rw [HE.out], HB3.out⟩
          case measure => simp only [intOf]; omega
        have HE : Hid (M (k + 1) = b) := HDS.out.trans (if_neg (fun h => by omega))
        have hlti : (N : Int) < (b : Int) := by omega
        go_wp2_with fail
        refine HIMG.out.mono ?_
        rintro e w2 ⟨v2, rfl, ho2, hb2⟩
        have HB2 := Lib.hid (hbw.trans (hb2.mono hbw.size))
        have HR2 := Lib.hid (ho2.rd (Nat.le_refl _))
        obtain ⟨p2, c2, g2, o2, rfl, hc2, -⟩ := ho2
        clear hb2
        go_wp2_with fail
        refine (HCALL.out _ _ HR2.out).mono ?_
        rintro e w3 ⟨rfl, hb3⟩
        have HB3 := Lib.hid (HB2.out.trans (hb3.mono HB2.out.size))
        clear hb3
        go_wp2_with fail
        go_roundw
        case rel => exact ⟨k + 1, by omega, by congr 1, by rw [HE.out], HB3.out⟩
        case measure => simp only [intOf]; omega
      · have hdd : ((d : Int) == 0) = false := by simpa using (show ¬ (d : Int) = 0 by omega)
        have HE : Hid (M (k + 1) = b) := HDS.out.trans (if_neg (fun h => hd0 h.1))
        go_wp2_with fail
        refine HIMG.out.mono ?_
        rintro e w2 ⟨v2, rfl, ho2, hb2⟩
        have HB2 := Lib.hid (hbw.trans (hb2.mono hbw.size))
        have HR2 := Lib.hid (ho2.rd (Nat.le_refl _))
        obtain ⟨p2, c2, g2, o2, rfl, hc2, -⟩ := ho2
        clear hb2
        go_wp2_with fail
        refine (HCALL.out _ _ HR2.out).mono ?_
        rintro e w3 ⟨rfl, hb3⟩
        have HB3 := Lib.hid (HB2.out.trans (hb3.mono HB2.out.size))
        clear hb3
        go_wp2_with fail
        go_roundw
        case rel => exact ⟨k + 1, by omega, by congr 1, by rw [HE.out], HB3.out⟩
        case measure => simp only [intOf]; omega
    · obtain rfl : k = P := by omega
      go_wp2_with fail
      go_ret
      exact ⟨by rw [HN.out]; rfl, hbw⟩

end Go.Proofs.Ytkdlhapbbnggoaa
