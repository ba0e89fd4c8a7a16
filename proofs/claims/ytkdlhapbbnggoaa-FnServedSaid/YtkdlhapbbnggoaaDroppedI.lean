/- What the program's Dropped returns. -/
import Derived.Test.YtkdlhapbbnggoaaServeI
namespace Go.Proofs.Ytkdlhapbbnggoaa
open Go.RowKit
set_option linter.unusedVariables false

set_option maxRecDepth 100000 in
set_option maxHeartbeats 4000000 in
theorem iDropped_v (n : Nat) (hn : n ≤ maxLen) (z : Nat → Int) (v : Value) (t s : Int) (w : World) (h : Rd w v n (n * 2) z) :
    Calls Try.prog 42 #[v, .int .i64 t, .int .i64 s] w fun e w' => e = .returned (.int .i64 (drI n z t s)) ∧ Below w.heap.size w w' := by
  have hcon := Lib.hid (fun W (hW : Below w.heap.size w W) => iServeOk_v n hn z v t s W (h.later hW))
  by_cases hv : SvP n z t s
  rotate_left
  · have HN := Lib.hid (drI_no hv)
    rw [svOk_no hv] at hcon
    go_enter Try.func42, Try.ntmps42
    go_wp2_with fail
    refine (hcon.out _ (Below.refl _ _)).mono ?_
    rintro e w1 ⟨rfl, hb⟩
    go_wp2_with fail
    go_ret
    exact ⟨by rw [HN.out]; rfl, hb⟩
  · have HN := Lib.hid (drI_yes hv)
    have hsv := Lib.hid (fun W (hW : Below w.heap.size w W) => iServe_v n hn z v t s W (h.later hW))
    rw [svOk_yes hv] at hcon
    rw [show svN n z t s = n from if_pos hv] at hsv
    have hrg : ∀ k, k < n → -1 ≤ svO t s.toNat z k ∧ svO t s.toNat z k ≤ 110000 := fun k hk => svO_range hv.2.1.2 (m := s.toNat) hv.1 hk
    have hn16 : n ≤ 16 := hv.1.1
    have hN : drI n z t s = (drK t s.toNat z n : Int) := HN.out
    obtain ⟨q, hq⟩ : ∃ q, q = svO t s.toNat z := ⟨_, rfl⟩
    obtain ⟨d, hd⟩ : ∃ d, d = drK t s.toNat z := ⟨_, rfl⟩
    have hds : ∀ k, d (k + 1) = d k + if q k = -1 then 1 else 0 := fun k => by rw [hd, hq]; rfl
    have hdl : ∀ k, d k ≤ k := fun k => by rw [hd]; exact drK_le k
    have hd0 : d 0 = 0 := by rw [hd]; rfl
    rw [← hq] at hsv hrg
    rw [← hd] at hN
    have HRG := Lib.hid hrg
    have HNN := Lib.hid hN
    have HDS := Lib.hid hds
    have HDL := Lib.hid hdl
    have HD0 := Lib.hid hd0
    clear hq hd hrg hN HN hv hds hdl hd0 h
    go_enter Try.func42, Try.ntmps42
    go_wp2_with fail
    refine (hcon.out _ (Below.refl _ _)).mono ?_
    rintro e w1 ⟨rfl, hb1⟩
    have HB1 := Lib.hid hb1
    clear hb1
    go_wp2_with fail
    refine (hsv.out _ HB1.out).mono ?_
    rintro e w2 ⟨v2, rfl, hown, hb2⟩
    have HB2 := Lib.hid (HB1.out.trans (hb2.mono HB1.out.size))
    obtain ⟨p2, c2, g2, o2, rfl, hc2, hfl, -⟩ := hown
    have HF := Lib.hid hfl
    clear hb2 hfl
    go_wp2_with fail
    go_loopw [7, 20] (fun dv v wr => ∃ k : Nat, k ≤ n ∧ v = .int .i64 (k : Int) ∧ dv = .int .i64 ((d k : Nat) : Int) ∧ Below w2.heap.size w2 wr) (fun _ v _ => n - (intOf v).toNat)
    case atStart => exact ⟨0, by omega, rfl, by rw [HD0.out]; rfl, Below.refl _ _⟩
    case round =>
      obtain ⟨k, hk, rfl, rfl, hbw⟩ := hrel
      by_cases hkn : k < n
      · obtain ⟨rfl, -, hg⟩ := HF.out.1 (by omega)
        have a0 := (hbw.cell (p := ⟨g2, o2 + k, none⟩) hg).trans (HF.out.int k (by omega))
        have hr := HRG.out k hkn
        have hds := HDS.out k
        have hdl := HDL.out k
        obtain ⟨x, hx⟩ : ∃ x, x = q k := ⟨_, rfl⟩
        rw [← hx] at a0 hr hds
        obtain ⟨y, hy⟩ : ∃ y, y = d k := ⟨_, rfl⟩
        rw [← hy] at hdl hds ⊢
        have HS := Lib.hid hds
        have hk0 : (0 : Int) ≤ (k : Int) := by omega
        have hkl : (k : Int) < (n : Int) := by omega
        clear hds hx hy
        by_cases hc : x = -1
        · subst hc
          go_wp2_with fail
          go_roundw
          case rel => exact ⟨k + 1, by omega, by congr 1, by rw [HS.out, if_pos rfl]; congr 1, hbw⟩
          case measure => simp only [intOf]; omega
        · have hcd : (x == -1) = false := by simpa using hc
          go_wp2_with fail
          go_roundw
          case rel => exact ⟨k + 1, by omega, by congr 1, by rw [HS.out, if_neg (by omega)]; congr 1, hbw⟩
          case measure => simp only [intOf]; omega
      · obtain rfl : k = n := by omega
        go_wp2_with fail
        go_ret
        exact ⟨by rw [HNN.out]; rfl, HB2.out.trans (hbw.mono HB2.out.size)⟩

end Go.Proofs.Ytkdlhapbbnggoaa
