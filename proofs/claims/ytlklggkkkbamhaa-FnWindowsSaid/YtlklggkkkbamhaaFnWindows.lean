/- For every code FnWindows returns true, and the code reads as before. No condition. -/
import Derived.Test.YtlklggkkkbamhaaRows
import Derived.Test.YtlklggkkkbamhaaDrawB
import Derived.Test.YtlklggkkkbamhaaWinAux
import Derived.Test.YtlklggkkkbamhaaWinV
import Derived.Test.YtlklggkkkbamhaaRunS
import Derived.Test.YtlklggkkkbamhaaSameExpects
import Derived.Test.YtlklggkkkbamhaaExpectOkI
import Derived.Test.YtlklggkkkbamhaaBig
import Derived.Test.YtlklggkkkbamhaaLater
import Derived.Deep.RegionHeld3
import Derived.Deep.CutBlock
import Derived.Deep.DeepCutAuto
import Derived.Deep.CutRange
import Derived.OpenShut
import Derived.ChangeOld
import Derived.Lib.SmallJoins
namespace Go.Proofs.Ytlklggkkkbamhaa.fnWindows
open Go.ChangeShapes Go.WideShapes Go.ChangeAt Go.RowKit
set_option linter.unusedVariables false

theorem bx_later {w w' : World} {k : Nat} {o : Obj} (h : w.heap[k]? = some o) (hb : Below w.heap.size w w') : w'.heap[k]? = some o := (hb.block k (Array.getElem?_eq_some_iff.1 h).1).trans h

set_option maxRecDepth 100000 in
set_option maxHeartbeats 8000000 in
theorem walk (p : Option Addr) (n cap gc oc : Nat) (w : World) (hn : n ≤ maxLen) (hC : Code w.heap.size n w p gc oc) :
    Calls Try.prog 4 #[.slice p n cap] w fun e w' => e = .returned (.bool true) ∧ Below w.heap.size w w' := by
  have hbg := Lib.hid (big_any p n cap hn w)
  by_cases hbig : 1048576 < n
  · have hd : decide (1048576 < n) = true := decide_eq_true hbig
    simp only [hd] at hbg
    clear hC hbig hd hn
    go_enter Try.func4, Try.ntmps4
    go_wp2_with (go_at_call 14; refine hbg.out.mono ?_; rintro e w' ⟨rfl, rfl⟩)
    go_ret
    exact ⟨rfl, Below.refl _ _⟩
  have hd : decide (1048576 < n) = false := decide_eq_false hbig
  simp only [hd] at hbg
  have hn' : n ≤ 1048576 := by omega
  have HC := Lib.hid hC
  clear hC hbig hd hn
  go_enter Try.func4, Try.ntmps4
  go_wp2_with (go_at_call 14; refine hbg.out.mono ?_; rintro e w' ⟨rfl, rfl⟩)
  refine (DrawBelt_any hn' (Below.refl _ _) HC.out).mono ?_
  rintro e w1 ⟨L, G, H, q, po, co, z, rfl, hq, hok, hL, hRb, hb1⟩
  have B1 := Lib.hid hb1
  have Rb1 := Lib.hid hRb
  have hRb0 := Lib.hid hRb
  have HOK := Lib.hid hok
  clear hRb hb1 hbg
  go_upto_region 4 with fail
  obtain ⟨w2, hw2⟩ : ∃ xx, xx = w1.alloc (.cells #[.int .i64 L, .int .i64 G, .bool H, .slice po q co] 24) := ⟨_, rfl⟩
  have hb : Below w1.heap.size w1 w2 := by rw [hw2]; exact (Below.refl _ _).alloc (Nat.le_refl _) _
  have X2 : Hid (w2.heap[w1.heap.size]? = some (.cells #[.int .i64 L, .int .i64 G, .bool H, .slice po q co] 24 (0, 0))) := by rw [hw2]; exact heap_new _ _ _ rfl
  rw [← hw2]
  have hs2 : w1.heap.size < w2.heap.size := by rw [hw2]; simp
  clear hw2
  have B2 := Lib.hid (B1.out.trans (hb.mono B1.out.size))
  have B12 := Lib.hid hb
  have Rb2 := Lib.hid (Rb1.out.later hb)
  clear hb Rb1
  go_wp2_with fail
  refine (DrawPlaces_any hn' B2.out HC.out).mono ?_
  rintro e w3 ⟨v, y, hy, rfl, hRy, hb3⟩
  obtain ⟨py, cy, gy, oy, rfl, -, hfy, -⟩ := hRy
  have X3 := (hb3.block _ hs2).trans X2.out
  have B3 := Lib.hid (B2.out.trans (hb3.mono B2.out.size))
  have B13 := Lib.hid (show Below w1.heap.size w1 w3 from B12.out.trans (hb3.mono (by omega)))
  have Rb3 := Lib.hid (Rb2.out.later hb3)
  have hs3 : w1.heap.size < w3.heap.size := Nat.lt_of_lt_of_le hs2 hb3.size
  obtain ⟨rfl, hgy1, hgy2⟩ := hfy.1 (by omega)
  obtain ⟨hy00, hy01⟩ := hy 0 (by omega)
  obtain ⟨hy10, hy11⟩ := hy 1 (by omega)
  obtain ⟨l0, hl0⟩ : ∃ l0, l0 = y 0 := ⟨_, rfl⟩
  obtain ⟨l1, hl1⟩ : ∃ l1, l1 = y 1 := ⟨_, rfl⟩
  have a0 : w3.cell? ⟨gy, oy + 0, none⟩ = some (.int .i64 l0) := by rw [hl0]; exact hfy.int 0 (by omega)
  have a1 : w3.cell? ⟨gy, oy + 1, none⟩ = some (.int .i64 l1) := by rw [hl1]; exact hfy.int 1 (by omega)
  rw [← hl0] at hy00 hy01
  rw [← hl1] at hy10 hy11
  have hne : gy ≠ w1.heap.size := by omega
  clear hl0 hl1 hy hfy hb3 B2 Rb2 X2
  -- b.Held = false
  obtain ⟨w4, hw4⟩ : ∃ xx, xx = w3.setCell ⟨w1.heap.size, 2, none⟩ (.bool false) := ⟨_, rfl⟩
  have X4 : Hid (w4.heap[w1.heap.size]? = some (.cells #[.int .i64 L, .int .i64 G, .bool false, .slice po q co] 24 (0, 0))) := by rw [hw4]; exact blk_set X3 _
  have B4 : Hid (Below w.heap.size w w4) := by rw [hw4]; exact B3.out.setCell (by show w.heap.size ≤ w1.heap.size; exact B1.out.size) _
  have c0 : w4.cell? ⟨gy, oy + 0, none⟩ = some (.int .i64 l0) := by rw [hw4]; exact (World.cell?_of_block (a := ⟨gy, oy + 0, none⟩) (Below.heap_setCell _ _ _ _ hne)).trans a0
  have c1 : w4.cell? ⟨gy, oy + 1, none⟩ = some (.int .i64 l1) := by rw [hw4]; exact (World.cell?_of_block (a := ⟨gy, oy + 1, none⟩) (Below.heap_setCell _ _ _ _ hne)).trans a1
  have hRb4 : Rd w4 (.slice po q co) q (q * 3) z := by
    obtain ⟨pb, cb, gb, ob, e, hcb, hfb⟩ := hRb0.out
    injection e with e1 _ e3
    subst e1; subst e3
    refine ⟨_, _, gb, ob, rfl, hcb, ⟨fun h0 => ⟨(hfb.1 h0).1, Nat.zero_le _, ?_⟩, fun j hj => ?_⟩⟩
    · have := (hfb.1 h0).2.2; rw [hw4]; simp [World.setCell]; omega
    · have hgb := (hfb.1 (by omega)).2.2
      rw [hw4]
      exact (World.cell?_of_block (a := ⟨gb, ob + j, none⟩) ((Below.heap_setCell _ _ _ _ (by show gb ≠ w1.heap.size; omega)).trans (B13.out.block gb (by omega)))).trans (hfb.2 j hj)
  have Rb4 := Lib.hid hRb4
  have hs4 : w1.heap.size < w4.heap.size := by rw [hw4]; simpa [World.setCell] using hs3
  have HW4 := Lib.hid hw4
  obtain ⟨x0, x1, x2, x3, g0, g1, g2, g3⟩ := cells4 X3
  clear X3 hRb4 Rb3 B3 hw4
  go_upto_region 6 with fail
  rw [← HW4.out]
  clear x0 x1 x2 x3 g0 g1 g2 g3 HW4 a0 a1
  obtain ⟨x0, x1, x2, x3, -, -, -, -⟩ := cells4 X4.out
  obtain ⟨pl, hpl⟩ : ∃ pl, pl = 1 + l0 % L := ⟨_, rfl⟩
  obtain ⟨nw, hnw⟩ : ∃ nw, nw = l1 % 1000 := ⟨_, rfl⟩
  have hL1 : 1 ≤ L ∧ L ≤ 400 := HOK.out.1
  have hmod : 0 ≤ l0 % L ∧ l0 % L < L := ⟨Int.emod_nonneg _ (by omega), Int.emod_lt_of_pos _ (by omega)⟩
  have hmod2 : 0 ≤ nw ∧ nw < 1000 := by rw [hnw]; exact ⟨Int.emod_nonneg _ (by omega), Int.emod_lt_of_pos _ (by omega)⟩
  have hwp : wrap64 (1 + l0 % L) = 1 + l0 % L := IntWalk.wrap64_in _ (by omega)
  have hwp2 : IntKind.i64.wrap (l0 % L) = l0 % L := IntWalk.i64_in _ (by omega)
  have hwp3 : IntKind.i64.wrap (l1 % 1000) = l1 % 1000 := IntWalk.i64_in _ (by omega)
  obtain ⟨hm20, hm21⟩ := hmod2
  have hpl0 : 1 ≤ pl := by omega
  have hpl1 : pl ≤ L := by omega
  have hLne : L ≠ 0 := by omega
  have hLd : decide (L = 0) = false := decide_eq_false hLne
  obtain ⟨N, d, hN1, e1, e2, e3, e4, hex, hkey⟩ := win_facts HOK.out hq hpl0 hpl1 hm20 hm21
  have HEX := Lib.hid hex
  have HKEY := Lib.hid hkey
  clear hex hkey hmod
  have hI0 := Lib.hid (fun W (hW : Below w4.heap.size w4 W) => iWindows_v q (by omega) z po co L G false pl nw 0 W (Rb4.out.later hW))
  have hS0 := Lib.hid (fun W (hW : Below w4.heap.size w4 W) => sWindows_v q (by omega) z po co L G false pl nw 0 W (Rb4.out.later hW))
  have hI7 := Lib.hid (fun W (hW : Below w4.heap.size w4 W) => iWindows_v q (by omega) z po co L G false pl nw 7 W (Rb4.out.later hW))
  rw [e1, e3] at hI0 hS0
  rw [e2, e4] at hI7
  obtain ⟨Z0, hZ0⟩ : ∃ y, y = winZ q z pl nw 0 := ⟨_, rfl⟩
  obtain ⟨Z7, hZ7⟩ : ∃ y, y = winZ q z pl nw 7 := ⟨_, rfl⟩
  rw [← hZ0] at hI0 hS0 HEX HKEY
  rw [← hZ7] at hI7 HKEY
  have hrun := Lib.hid (fun W (hW : Below w4.heap.size w4 W) (S : Nat) (hS : S ≤ 2000) => (by
    obtain ⟨pb, cb, gb, ob, e, hcb, hfb⟩ := Rb4.out.later hW
    injection e with f1 _ f3
    subst f1; subst f3
    exact sRun_ok q (by omega) z po co gb ob L G false W hfb S hS HOK.out : Calls Try.prog 10 #[.agg #[.int .i64 L, .int .i64 G, .bool false, .slice po q co], .int .i64 (S : Int)] W fun e w' => ∃ p' c' v, e = .returned (.tuple #[.agg #[.int .i64 L, .int .i64 G, .bool false, .slice p' (ru L G false q z S).n c'], v]) ∧ Own w' W.heap.size w'.heap.size (.slice p' (ru L G false q z S).n c') (ru L G false q z S).n ((ru L G false q z S).n * 3) (ru L G false q z S).z ∧ Own w' W.heap.size w'.heap.size v (q - (ru L G false q z S).n) ((q - (ru L G false q z S).n) * 2) (fun j => (ru L G false q z S).l.getD j 0) ∧ Below W.heap.size W w'))
  clear e1 e2 e3 e4 hZ0 hZ7
  have c0' : w4.cell? ⟨gy, oy, none⟩ = some (.int .i64 l0) := c0
  clear c0
  go_quiet (fail)
  rw [← hpl]
  clear hpl hwp hwp2
  go_upto_region 8 with fail
  rw [← hnw]
  clear hnw hwp3 c0' c1 hy00 hy01 hy10 hy11
  have hb44 : Below w4.heap.size w4 w4 := Below.refl _ _
  go_wp2_with fail
  refine (hI0.out _ (below_drewN' (Below.refl _ _) _)).mono ?_
  rintro e w5 ⟨v, rfl, ho, hb0⟩
  have hb : Below w4.heap.size w4 w5 := (below_drewN' (Below.refl _ _) _).trans (hb0.mono (Nat.le_refl _))
  clear hb0
  obtain ⟨p7, c7, g7, o7, rfl, hc7, hf7, -⟩ := ho
  have F7 := Lib.hid (hf7.wide (Nat.zero_le _) (Nat.le_refl _))
  have HS5 := hb.size
  have B5 := Lib.hid hb
  have X5 := Lib.hid (bx_later X4.out hb)
  clear hf7 hb x0 x1 x2 x3 hI0 hb44
  obtain ⟨x0, x1, x2, x3, -, -, -, -⟩ := cells4 X5.out
  go_wp2_with fail
  refine (hS0.out _ B5.out).mono ?_
  rintro e w6 ⟨v, rfl, ho, hb⟩
  obtain ⟨p9, c9, g9, o9, rfl, hc9, hf9, -⟩ := ho
  have F9 := Lib.hid (hf9.wide (Nat.zero_le _) (Nat.le_refl _))
  have B6 := Lib.hid (B5.out.trans (hb.mono HS5))
  have X6 := Lib.hid (bx_later X5.out hb)
  have G7 := Lib.hid ((F7.out.below hb (Nat.le_refl _)).wide (Nat.zero_le _) hb.size)
  clear hf9 hb x0 x1 x2 x3 hS0 F7 X5
  obtain ⟨x0, x1, x2, x3, -, -, -, -⟩ := cells4 X6.out
  go_wp2_with fail
  refine (hI7.out _ B6.out).mono ?_
  rintro e w7 ⟨v, rfl, ho, hb⟩
  obtain ⟨pa, ca, ga, oa, rfl, hca, hfa, -⟩ := ho
  have FA := Lib.hid (hfa.wide (Nat.zero_le _) (Nat.le_refl _))
  have B7 := Lib.hid (B6.out.trans (hb.mono B6.out.size))
  have X7 := Lib.hid (bx_later X6.out hb)
  have F7 := Lib.hid ((G7.out.below hb (Nat.le_refl _)).wide (Nat.zero_le _) hb.size)
  have G9 := Lib.hid ((F9.out.below hb (Nat.le_refl _)).wide (Nat.zero_le _) hb.size)
  clear hfa hb x0 x1 x2 x3 hI7 G7 F9 X6 B6
  obtain ⟨x0, x1, x2, x3, -, -, -, -⟩ := cells4 X7.out
  have hnn : ((N : Int) != (N : Int)) = false := by simp
  have hse := Lib.hid (sameExpects_v N (by omega) Z0 (.slice p7 N c7) (.slice p9 N c9) w7 ⟨_, _, _, _, rfl, hc7, F7.out⟩ ⟨_, _, _, _, rfl, hc9, G9.out⟩)
  go_wp2_with (go_at_call 19; refine hse.out.mono ?_; rintro e w8 ⟨rfl, hb8⟩)
  have B8 := Lib.hid (show Below w4.heap.size w4 w8 from B7.out.trans (hb8.mono B7.out.size))
  have X8 := Lib.hid (bx_later X7.out hb8)
  have F8 := Lib.hid ((F7.out.below hb8 (Nat.le_refl _)).wide (Nat.zero_le _) hb8.size)
  have A8 := Lib.hid ((FA.out.below hb8 (Nat.le_refl _)).wide (Nat.zero_le _) hb8.size)
  clear hb8 x0 x1 x2 x3 X7 F7 FA hse hnn B5 B7 G9
  go_loopw [13] (fun v wr => ∃ k : Nat, k ≤ N ∧ v = .int .i64 (k : Int) ∧ Below w8.heap.size w8 wr) (fun v _ => N - (intOf v).toNat)
  case atStart => exact ⟨0, by omega, rfl, Below.refl _ _⟩
  case round =>
    obtain ⟨k, hk, rfl, hW⟩ := hrel
    by_cases hkn : k < N
    rotate_left
    · obtain rfl : k = N := by omega
      have HE := iExpectOk_any k (by unfold maxLen; omega) Z0 p7 c7 g7 o7 wr ((F8.out.below hW (Nat.le_refl _)).wide (Nat.zero_le _) hW.size) hc7
      rw [exB_yes HEX.out] at HE
      have HE' := Lib.hid HE
      have HWh := Lib.hid hW
      clear HE hW
      go_wp2_with (go_at_call 20; refine HE'.out.mono ?_; rintro e w9 ⟨rfl, hb9⟩)
      go_ret
      exact ⟨rfl, B4.out.trans ((B8.out.trans (HWh.out.trans (hb9.mono HWh.out.size) |>.mono B8.out.size)).mono B4.out.size)⟩
    obtain ⟨a0, a1, a2⟩ := F8.out.at3 hW (Nat.le_refl _) k (by omega)
    obtain ⟨rfl, -, hg7⟩ := F8.out.1 (by omega)
    obtain ⟨rfl, -, hga⟩ := A8.out.1 (by omega)
    obtain ⟨x0, x1, x2, x3, -, -, -, -⟩ := cells4 (bx_later X8.out hW)
    have hk8 := HKEY.out k hkn
    obtain ⟨m, hm1, hm2, hm3⟩ := run_to HOK.out hpl1 (k := d + k) (by omega) hk8.1 (s := (pl - z ((d + k) * 3 + 1)).toNat) (by have := hk8.1; omega)
    obtain ⟨S, hS⟩ : ∃ S : Nat, S = (pl - z ((d + k) * 3 + 1)).toNat := ⟨_, rfl⟩
    have hSS : (S : Int) = pl - z ((d + k) * 3 + 1) := by rw [hS]; have := hk8.1; omega
    obtain ⟨fr, hfr⟩ : ∃ x, x = z ((d + k) * 3 + 1) := ⟨_, rfl⟩
    obtain ⟨bag, hbag⟩ : ∃ x, x = z ((d + k) * 3) := ⟨_, rfl⟩
    rw [← hS] at hm1 hm2 hm3
    rw [← hfr] at hk8 hSS
    rw [← hbag] at hk8 hm2
    obtain ⟨T, hT⟩ : ∃ T, T = nw + pl - fr := ⟨_, rfl⟩
    rw [← hT] at hk8
    obtain ⟨u0, u0', u1, u2, u3, u4, u5, u6⟩ := hk8
    rw [u2] at a1
    have hS2 : S ≤ 2000 := by omega
    have hsub : IntKind.i64.wrap (T - nw) = (S : Int) := by rw [IntWalk.i64_in _ (by omega)]; omega
    have hT7 : 0 ≤ T ∧ T ≤ 2000 := by omega
    have U := Lib.hid (And.intro u1 (And.intro u2 (And.intro u3 (And.intro u4 (And.intro u5 u6)))))
    have hrn := Lib.hid (fun W (hV : Below wr.heap.size wr W) => hrun.out W (B8.out.trans ((hW.trans (hV.mono hW.size)).mono B8.out.size)) S hS2)
    obtain ⟨r, hr⟩ : ∃ r, r = ru L G false q z S := ⟨_, rfl⟩
    rw [← hr] at hm1 hm2 hm3 hrn
    obtain ⟨N2, hN2⟩ : ∃ x, x = r.n := ⟨_, rfl⟩
    obtain ⟨Z2, hZ2⟩ : ∃ x, x = r.z := ⟨_, rfl⟩
    have hN26 : N2 ≤ 6 := by
      obtain ⟨c, hc⟩ := ru_at HOK.out S
      rw [hN2, hr, hc.num]; omega
    have HT7 := Lib.hid hT7
    rw [← hN2] at hm1 hrn
    rw [← hZ2] at hm2 hm3 hrn
    have HM : Hid (∃ m, m < N2 ∧ Z2 (m * 3) = bag ∧ Z2 (m * 3 + 1) = pl) := ⟨m, hm1, hm2, hm3⟩
    have HW := Lib.hid hW
    have hlx : w1.heap.size < wr.heap.size := by have := (Array.getElem?_eq_some_iff.1 (bx_later X8.out hW)).1; exact this
    have D0 : Below wr.heap.size wr wr := Below.refl _ _
    have hSk := Lib.hid (fun (K : World) (hK : Below wr.heap.size wr K) => (by
      obtain ⟨v0, v1, v2, v3, -, -, -, -⟩ := cells4 (bx_later (bx_later X8.out HW.out) hK)
      exact ⟨v0, v1, v2, v3, by have := (F8.out.at3 (HW.out.trans (hK.mono HW.out.size)) (Nat.le_refl _) k (by omega)).2.1; rwa [U.out.2.1] at this⟩ : K.cell? ⟨w1.heap.size, 0, none⟩ = some (.int .i64 L) ∧ K.cell? ⟨w1.heap.size, 1, none⟩ = some (.int .i64 G) ∧ K.cell? ⟨w1.heap.size, 2, none⟩ = some (.bool false) ∧ K.cell? ⟨w1.heap.size, 3, none⟩ = some (.slice po q co) ∧ K.cell? ⟨g7, o7 + k * 3 + 1, none⟩ = some (.int .i64 T)))
    have hkeep0 := hSk.out _ D0
    clear hr hN2 hZ2 hS hSS hfr hbag hT u0 u0' u1 u2 u3 u4 u5 u6 hm1 hm2 hm3 a0 a2 hW hS2 hT7
    go_wp2_with fail
    go_cut [14, 15] from 84 to 95 (fun pv ev wx => ∃ (X9 : Nat) (p2 : Option Addr) (c2 : Nat) (v2 : Value), .pointer (some ⟨X9, 0, none⟩) = pv ∧ v2 = ev ∧ wx.heap[X9]? = some (.cells #[.int .i64 L, .int .i64 G, .bool false, .slice p2 N2 c2] 24 (0, 0)) ∧ Rd wx (.slice p2 N2 c2) N2 (N2 * 3) Z2 ∧ Below wr.heap.size wr wx)
    case first =>
      go_region_held3 (fun K => K.cell? ⟨w1.heap.size, 0, none⟩ = some (.int .i64 L) ∧ K.cell? ⟨w1.heap.size, 1, none⟩ = some (.int .i64 G) ∧ K.cell? ⟨w1.heap.size, 2, none⟩ = some (.bool false) ∧ K.cell? ⟨w1.heap.size, 3, none⟩ = some (.slice po q co) ∧ K.cell? ⟨g7, o7 + k * 3 + 1, none⟩ = some (.int .i64 T))
        (first | exact hkeep0 | exact hkeep1 | (exact hSk.out _ (by repeat (first | exact D1 | exact D0 | refine Below.setCell ?_ (by first | omega | (simp; done) | (simp; omega)) _ | refine Below.alloc ?_ (by first | omega | (simp; done) | (simp; omega)) _ | refine Below.drew ?_))) | go_keep)
        (first | (go_at_call 10; refine (hrn.out _ (by repeat (first | assumption | exact Below.refl _ _ | refine Below.alloc ?_ (by simp <;> omega) _ | refine Below.drew ?_))).mono ?_; rintro e k1 ⟨p2, c2, v2, rfl, hO1, -, hbk⟩; have D1 : Below wr.heap.size wr k1 := below_via hbk (by repeat (first | assumption | exact Below.refl _ _ | refine Below.alloc ?_ (by simp <;> omega) _ | refine Below.drew ?_)) (by simp); have hs1 := D1.size; have hkeep1 := hSk.out _ D1; obtain ⟨n0, n1, n2, n3, n4, n5, n6, n7⟩ := cells4 (heap_new k1 (.cells #[.int .i64 0, .int .i64 0, .bool false, .slice none 0 0] 24) k1.heap.size rfl); (first | (have hz9 := (hbk.block wr.heap.size (by simp)).trans (heap_new wr.drew (.cells #[.int .i64 0, .int .i64 0, .bool false, .slice none 0 0] 24) wr.heap.size rfl); obtain ⟨q0, q1, q2, q3, q4, q5, q6, q7⟩ := cells4 hz9) | skip)))
      all_goals
        go_wp2_with fail
        go_meet
        refine ⟨_, p2, c2, v2, rfl, rfl, ?_, ?_, ?_⟩
        · first
            | (with_reducible exact heap_new k1 _ _ rfl)
            | exact blk_set (blk_set (blk_set (blk_set hz9 _) _) _) _
        · first
            | (with_reducible exact (hO1.rd (Nat.le_refl _)).later ((Below.refl _ _).alloc (Nat.le_refl _) _))
            | (obtain ⟨px, cx, gx, ox, he, hh1, hf, -⟩ := hO1
               refine ⟨px, cx, gx, ox, he, hh1, FlatAt.wide ((((hf.far _ ?_).far _ ?_).far _ ?_).far _ ?_) (Nat.zero_le _) ?_⟩ <;> first | (left; simp; done) | (left; simp; omega) | simp)
        · first
            | (with_reducible exact D1.alloc hs1 _)
            | (with_reducible exact (((D1.setCell (Nat.le_refl _) _).setCell (Nat.le_refl _) _).setCell (Nat.le_refl _) _).setCell (Nat.le_refl _) _)
    case rest =>
      obtain ⟨X9, p2, c2, v2, rfl, rfl, j1, j2, j3⟩ := hcut
      obtain ⟨_, _, g2, o2, he, hcc, hf2⟩ := j2
      injection he with f1 _ f3
      subst f1; subst f3
      have J1 := Lib.hid j1
      have J2 := Lib.hid hf2
      have J3 := Lib.hid j3
      have HWC := Lib.hid (HW.out.trans (j3.mono HW.out.size))
      clear j1 j3 hf2 D0 hkeep0 hSk hrn hrun x0 x1 x2 x3 a1 hsub
      go_wp2_with fail
      go_loopw [16, 17] (fun fv v wi => ∃ (i : Nat) (b : Bool), i ≤ N2 ∧ v = .int .i64 (i : Int) ∧ fv = .bool b ∧ Hid (b = false → ∀ j, j < i → ¬ (Z2 (j * 3) = bag ∧ Z2 (j * 3 + 1) = pl)) ∧ Below wc.heap.size wc wi) (fun _ v _ => N2 - (intOf v).toNat)
      case atStart => exact ⟨0, false, by omega, rfl, rfl, Lib.hid (fun _ j hj => absurd hj (by omega)), Below.refl _ _⟩
      case round =>
        obtain ⟨i, b, hi, rfl, rfl, HB, hWi⟩ := hrel
        obtain ⟨y0, y1, y2, y3, -, -, -, -⟩ := cells4 (bx_later J1.out hWi)
        have HWI := Lib.hid (HWC.out.trans (hWi.mono HWC.out.size))
        obtain ⟨a0, a1, a2⟩ := F8.out.at3 HWI.out (Nat.le_refl _) k (by omega)
        have hk0 : (0 : Int) ≤ (k : Int) := by omega
        have hkl : (k : Int) < (N : Int) := by omega
        by_cases hin : i < N2
        · obtain ⟨rfl, -, hg2⟩ := J2.out.1 (by omega)
          obtain ⟨z0, z1, -⟩ := J2.out.at3 hWi (Nat.le_refl _) i (by omega)
          have hi0 : (0 : Int) ≤ (i : Int) := by omega
          have hil : (i : Int) < (N2 : Int) := by omega
          rw [U.out.1] at a0
          clear a1 a2
          obtain ⟨zb, hzb⟩ : ∃ x, x = Z2 (i * 3) := ⟨_, rfl⟩
          obtain ⟨zf, hzf⟩ : ∃ x, x = Z2 (i * 3 + 1) := ⟨_, rfl⟩
          rw [← hzb] at z0
          rw [← hzf] at z1
          have HBI := Lib.hid hWi
          have HZ := Lib.hid (And.intro hzb hzf)
          clear hWi hzb hzf
          cases b with
          | true =>
            go_wp2_with fail
            go_quiet (fail)
            go_wp2_with fail
            go_roundw
            case rel => exact ⟨i + 1, true, by omega, by congr 1, rfl, Lib.hid (fun h => by cases h), below_drewN' HBI.out _⟩
            case measure => simp only [intOf]; omega
          | false =>
            by_cases q1 : zb = bag
            · subst q1
              by_cases q2 : zf = pl
              · subst q2
                go_wp2_with fail
                go_quiet (fail)
                go_wp2_with fail
                go_roundw
                case rel => exact ⟨i + 1, true, by omega, by congr 1, rfl, Lib.hid (fun h => by cases h), below_drewN' HBI.out _⟩
                case measure => simp only [intOf]; omega
              · have hq2 : (zf == pl) = false := beq_eq_false_iff_ne.2 q2
                have hq2d : decide (zf = pl) = false := decide_eq_false q2
                go_wp2_with fail
                go_quiet (fail)
                go_wp2_with fail
                go_roundw
                case rel =>
                  refine ⟨i + 1, false, by omega, by congr 1, rfl, Lib.hid (fun _ j hj => ?_), below_drewN' HBI.out _⟩
                  by_cases e : j = i
                  · subst e; rintro ⟨-, h2⟩; exact q2 (HZ.out.2.trans h2)
                  · first | exact HB.out rfl j (by omega) | exact HB.out trivial j (by omega)
                case measure => simp only [intOf]; omega
            · have hq1 : (zb == bag) = false := beq_eq_false_iff_ne.2 q1
              have hq1d : decide (zb = bag) = false := decide_eq_false q1
              go_wp2_with fail
              go_quiet (fail)
              go_wp2_with fail
              go_roundw
              case rel =>
                refine ⟨i + 1, false, by omega, by congr 1, rfl, Lib.hid (fun _ j hj => ?_), below_drewN' HBI.out _⟩
                by_cases e : j = i
                · subst e; rintro ⟨h1, -⟩; exact q1 (HZ.out.1.trans h1)
                · first | exact HB.out rfl j (by omega) | exact HB.out trivial j (by omega)
              case measure => simp only [intOf]; omega
        · obtain rfl : i = N2 := by omega
          cases b with
          | false =>
            obtain ⟨m, hm1, hm2, hm3⟩ := HM.out
            exact absurd ⟨hm2, hm3⟩ (HB.out rfl m hm1)
          | true =>
            obtain ⟨b0, b1, b2⟩ := A8.out.at3 HWI.out (Nat.le_refl _) k (by omega)
            rw [U.out.1] at a0
            rw [U.out.2.1] at a1
            rw [U.out.2.2.1] at a2
            rw [U.out.2.2.2.1] at b0
            rw [U.out.2.2.2.2.1] at b1
            rw [U.out.2.2.2.2.2] at b2
            have hwa : IntKind.i64.wrap (T - 7) = T - 7 := IntWalk.i64_in _ (by have := HT7.out; omega)
            have hwb : IntKind.i64.wrap (T + 7) = T + 7 := IntWalk.i64_in _ (by have := HT7.out; omega)
            obtain ⟨M, hM⟩ : ∃ M, M = max 0 (T - 7) := ⟨_, rfl⟩
            rw [← hM] at b1
            have hMd : (T - 7 < 0 ∧ M = 0) ∨ (T - 7 = 0 ∧ M = 0) ∨ (0 < T - 7 ∧ M = T - 7) := by omega
            have HWi := Lib.hid hWi
            clear hM hWi HM HKEY HEX HOK
            rcases hMd with ⟨h1, rfl⟩ | ⟨h1, rfl⟩ | ⟨h1, rfl⟩
            · have h2 : T < 7 := by omega
              have h3 : ¬ (0 < T - 7) := by omega
              have h4 : ¬ (7 < T) := by omega
              have d1 : decide (T - 7 < 0) = true := decide_eq_true h1
              have d2 : decide (0 < T - 7) = false := decide_eq_false h3
              have d3 : decide (T < 7) = true := decide_eq_true h2
              have d4 : decide (7 < T) = false := decide_eq_false h4
              go_wp2_with fail
              clear y0 y1 y2 y3
              go_quiet (fail)
              go_wp2_with fail
              go_roundw
              case rel => exact ⟨k + 1, by omega, by congr 1, below_drewN' HWI.out _⟩
              case measure => simp only [intOf]; omega
            · obtain rfl : T = 7 := by omega
              go_wp2_with fail
              clear y0 y1 y2 y3
              go_quiet (fail)
              go_wp2_with fail
              go_roundw
              case rel => exact ⟨k + 1, by omega, by congr 1, below_drewN' HWI.out _⟩
              case measure => simp only [intOf]; omega
            · have h2 : 7 < T := by omega
              have h3 : ¬ (T - 7 < 0) := by omega
              have h4 : ¬ (T < 7) := by omega
              have d1 : decide (T - 7 < 0) = false := decide_eq_false h3
              have d2 : decide (0 < T - 7) = true := decide_eq_true h1
              have d3 : decide (T < 7) = false := decide_eq_false h4
              have d4 : decide (7 < T) = true := decide_eq_true h2
              go_wp2_with fail
              clear y0 y1 y2 y3
              go_quiet (fail)
              go_wp2_with fail
              go_roundw
              case rel => exact ⟨k + 1, by omega, by congr 1, below_drewN' HWI.out _⟩
              case measure => simp only [intOf]; omega

/-! The row's step. -/
theorem own : ownKnob Try.prog.godebug = none := by kernel_rfl
theorem laidOut : laidOutB Try.prog = true := by kernel_rfl
set_option maxRecDepth 100000 in
theorem lifted (os : Os) (started : os.Started) (H : Type) (enc : TypeId × Value → H) :
    ReturnsInHanded {} Try.checked os 4 .any (Rows.fnWindowsSpec.pre6 enc Try.prog Try.f4 Rows.fnWindowsRow.domain false) (Rows.fnWindowsSpec.post enc Try.prog Try.f4 false true false false) := by
  refine returnsInHanded_of_change (C := Try.checked) own started (by kernel_rfl) Try.func4
    (ChangeSpec.witness6 (enc := enc) (C := Try.checked) false ⟨#[], #[.slice none 0 0], []⟩ 8 (by kernel_rfl) (by kernel_rfl) (by kernel_rfl) (by kernel_rfl)) ?_
  intro W base args ds gs before hval0 hW hcnd _
  have hval : ∀ (j : Nat) t v, Try.f4.params[j]? = some t → args[j]? = some v → Value.okWide Try.prog W .any base t v := hval0
  have hW' := hW
  obtain ⟨p, q, hA0, hV, rfl, hfz, hnd⟩ := hW
  have hA : DataW.TrodAll enc Try.prog W 0 (fun _ => true) true Try.f4.params.toList args.toList ds p := hA0
  rw [Try.params4] at hA hval
  obtain ⟨v0, vs0, d0, ds0, p0, q0, hargs, rfl, rfl, h0, r0⟩ := trodAll_cons hA
  obtain ⟨rfl, rfl, rfl⟩ := trodAll_nil r0
  obtain rfl : args = #[v0] := by cases args; simp_all
  obtain ⟨rfl, rfl⟩ := trodVars_none hV
  have k0 := h0
  have lt0 : ∀ x ∈ p0, x.block < W.heap.size := by obtain ⟨m, hm⟩ := k0; exact DataW.trod_lt m _ _ _ hm
  obtain ⟨sp0, ln0, cp0, rfl⟩ := okWide_slice Try.underlying36 (hval 0 36 v0 rfl rfl)
  obtain ⟨gc0, oc0, w0, cd0⟩ := code_open h0
  clear hA0 hval0
  refine (walk sp0 ln0 cp0 gc0 oc0 W w0 cd0).mono fun e W' ⟨he, bel⟩ => ?_
  subst he
  exact ⟨_, rfl, _, _, _, [], _, [], hW', trodAll_mk1 (shut_bool Try.underlying4 _), (trodAll_cons_mk (Below.trod laidOut (by kernel_rfl) (of_decide_eq_true (by kernel_rfl)) k0 bel lt0) trodAll_mk0), rfl, bel.frame _, fun h => by cases h⟩

theorem over : Rows.fnWindowsRow.holds Try.pinned (OpenSpec.ofChange Rows.fnWindowsSpec) :=
  OpenClaim.holds_of_wide 4 Try.f4 rfl rfl rfl rfl rfl rfl rfl ⟨rfl, rfl, rfl, rfl, rfl⟩ rfl rfl rfl rfl rfl (by kernel_rfl) Try.func4 (by kernel_rfl)
    (of_decide_eq_true (by kernel_rfl)) (by unfold Func.isWrapper; first | (rw [if_pos (by decide +kernel)]; kernel_rfl) | (rw [if_neg (by decide +kernel)]; exact ⟨rfl, rfl⟩))
    (fun os started H enc _ => lifted os started H enc)

/-- The statement. -/
theorem proved : Rows.FnWindowsSaid := over
#print axioms proved
end Go.Proofs.Ytlklggkkkbamhaa.fnWindows
