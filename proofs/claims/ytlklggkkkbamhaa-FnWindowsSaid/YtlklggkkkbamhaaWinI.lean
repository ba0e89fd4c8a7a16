/- What the program's Windows returns. -/
import Derived.Test.YtlklggkkkbamhaaWinS
namespace Go.Proofs.Ytlklggkkkbamhaa
open Go.RowKit
set_option linter.unusedVariables false

set_option maxRecDepth 100000 in
set_option maxHeartbeats 4000000 in
theorem iWindows_any (n : Nat) (hn : n ≤ 1048576) (z : Nat → Int) (p : Option Addr) (c g o : Nat) (L G : Int) (H : Bool) (place now slack : Int) (w : World) (h : FlatAt w 0 w.heap.size p g o (n * 3) (fun j => .int .i64 (z j))) (hc : n ≤ c) :
    Calls Try.prog 17 #[.agg #[.int .i64 L, .int .i64 G, .bool H, .slice p n c], .int .i64 place, .int .i64 now, .int .i64 slack] w fun e w' => ∃ v, e = .returned (.tuple #[v, .bool (winB L G n z place now slack)]) ∧ Own w' w.heap.size w'.heap.size v (winN L G n z place now slack) (winN L G n z place now slack * 3) (winZ n z place now slack) ∧ Below w.heap.size w w' := by
  obtain ⟨i0, hi, hz0, hz1, hz2⟩ := info_parts infoExpectW
  have c3 : Try.prog.cellsOf 32 = 3 := cellsItemW
  have c4 := cellsExpectW
  have HF := Lib.hid h
  have hbo := Lib.hid (fun W (hb : Below w.heap.size w W) => iBeltOk_any n (by unfold maxLen; omega) z p c g o L G H W ((HF.out.below hb (Nat.le_refl _)).wide (Nat.zero_le _) hb.size) hc)
  clear h
  by_cases b1 : okB L G n z = true
  rotate_left
  · have b1 : okB L G n z = false := by simpa using b1
    have hE := win_bad (z := z) (n := n) (place := place) (now := now) (slack := slack) (L := L) (G := G) (.inl b1)
    have hN := win_no hE
    have HE := Lib.hid hE
    have HN := Lib.hid hN
    clear hE hN
    simp only [b1] at hbo
    clear b1
    go_enter Try.func17, Try.ntmps17
    go_wp2_with (first
      | (go_at_call 13; refine (hbo.out _ (by repeat (first | exact Below.refl _ _ | refine Below.alloc ?_ (by simp <;> omega) _ | refine Below.setCell ?_ (by simp <;> omega) _ | refine Below.drew ?_))).mono ?_; rintro e w2 ⟨rfl, hb2⟩; have hx2 : w2.heap[w.heap.size]? = some (.cells #[.int .i64 L, .int .i64 G, .bool H, .slice p n c] 24 (0, 0)) := (hb2.block w.heap.size (by simp <;> omega)).trans (heap_new _ _ _ rfl); obtain ⟨x0, x1, x2, x3, -, -, -, -⟩ := cells4 hx2; have HB2 := Lib.hid (below_via hb2 (B := w.heap.size) (w := w) (by repeat (first | exact Below.refl _ _ | refine Below.alloc ?_ (by simp <;> omega) _ | refine Below.setCell ?_ (by simp <;> omega) _ | refine Below.drew ?_)) (by simp <;> omega)); have HX2 := Lib.hid hx2; have hz2' : w.heap.size + 1 ≤ w2.heap.size := (by have := hb2.size; simpa using this); have hlt2 : w.heap.size < w2.heap.size := (by omega); have hne2 : w2.heap.size ≠ w.heap.size := (by omega); clear hx2 hb2)
      | (go_at_call 35; refine (within_any _ _ _ _).mono ?_; rintro e w' ⟨rfl, rfl⟩))
    go_ret2
    rw [HN.out]
    exact ⟨_, (congrArg (fun b => Ending.returned (Value.tuple #[.slice none 0 0, .bool b])) HE.out).symm, own_empty _ _ _ _ _ _ _ (by omega), HB2.out⟩
  · cases b2 : inB 1 L place
    · 
      have hE := win_bad (z := z) (n := n) (place := place) (now := now) (slack := slack) (L := L) (G := G) (.inr (.inl b2))
      have hN := win_no hE
      have HE := Lib.hid hE
      have HN := Lib.hid hN
      clear hE hN
      have HP0 := Lib.hid b1
      simp only [b1] at hbo
      clear b1
      go_enter Try.func17, Try.ntmps17
      go_wp2_with (first
        | (go_at_call 13; refine (hbo.out _ (by repeat (first | exact Below.refl _ _ | refine Below.alloc ?_ (by simp <;> omega) _ | refine Below.setCell ?_ (by simp <;> omega) _ | refine Below.drew ?_))).mono ?_; rintro e w2 ⟨rfl, hb2⟩; have hx2 : w2.heap[w.heap.size]? = some (.cells #[.int .i64 L, .int .i64 G, .bool H, .slice p n c] 24 (0, 0)) := (hb2.block w.heap.size (by simp <;> omega)).trans (heap_new _ _ _ rfl); obtain ⟨x0, x1, x2, x3, -, -, -, -⟩ := cells4 hx2; have HB2 := Lib.hid (below_via hb2 (B := w.heap.size) (w := w) (by repeat (first | exact Below.refl _ _ | refine Below.alloc ?_ (by simp <;> omega) _ | refine Below.setCell ?_ (by simp <;> omega) _ | refine Below.drew ?_)) (by simp <;> omega)); have HX2 := Lib.hid hx2; have hz2' : w.heap.size + 1 ≤ w2.heap.size := (by have := hb2.size; simpa using this); have hlt2 : w.heap.size < w2.heap.size := (by omega); have hne2 : w2.heap.size ≠ w.heap.size := (by omega); clear hx2 hb2)
        | (go_at_call 35; refine (within_any _ _ _ _).mono ?_; rintro e w' ⟨rfl, rfl⟩))
      go_ret2
      rw [HN.out]
      exact ⟨_, (congrArg (fun b => Ending.returned (Value.tuple #[.slice none 0 0, .bool b])) HE.out).symm, own_empty _ _ _ _ _ _ _ (by omega), HB2.out⟩
    · cases b3 : inB 0 100000 now
      · 
        have hE := win_bad (z := z) (n := n) (place := place) (now := now) (slack := slack) (L := L) (G := G) (.inr (.inr (.inl b3)))
        have hN := win_no hE
        have HE := Lib.hid hE
        have HN := Lib.hid hN
        clear hE hN
        have HP0 := Lib.hid b1
        simp only [b1] at hbo
        clear b1
        go_enter Try.func17, Try.ntmps17
        go_wp2_with (first
          | (go_at_call 13; refine (hbo.out _ (by repeat (first | exact Below.refl _ _ | refine Below.alloc ?_ (by simp <;> omega) _ | refine Below.setCell ?_ (by simp <;> omega) _ | refine Below.drew ?_))).mono ?_; rintro e w2 ⟨rfl, hb2⟩; have hx2 : w2.heap[w.heap.size]? = some (.cells #[.int .i64 L, .int .i64 G, .bool H, .slice p n c] 24 (0, 0)) := (hb2.block w.heap.size (by simp <;> omega)).trans (heap_new _ _ _ rfl); obtain ⟨x0, x1, x2, x3, -, -, -, -⟩ := cells4 hx2; have HB2 := Lib.hid (below_via hb2 (B := w.heap.size) (w := w) (by repeat (first | exact Below.refl _ _ | refine Below.alloc ?_ (by simp <;> omega) _ | refine Below.setCell ?_ (by simp <;> omega) _ | refine Below.drew ?_)) (by simp <;> omega)); have HX2 := Lib.hid hx2; have hz2' : w.heap.size + 1 ≤ w2.heap.size := (by have := hb2.size; simpa using this); have hlt2 : w.heap.size < w2.heap.size := (by omega); have hne2 : w2.heap.size ≠ w.heap.size := (by omega); clear hx2 hb2)
          | (go_at_call 35; refine (within_any _ _ _ _).mono ?_; rintro e w' ⟨rfl, rfl⟩))
        go_ret2
        rw [HN.out]
        exact ⟨_, (congrArg (fun b => Ending.returned (Value.tuple #[.slice none 0 0, .bool b])) HE.out).symm, own_empty _ _ _ _ _ _ _ (by omega), HB2.out⟩
      · cases b4 : inB 0 100000 slack
        · 
          have hE := win_bad (z := z) (n := n) (place := place) (now := now) (slack := slack) (L := L) (G := G) (.inr (.inr (.inr (.inl b4))))
          have hN := win_no hE
          have HE := Lib.hid hE
          have HN := Lib.hid hN
          clear hE hN
          have HP0 := Lib.hid b1
          simp only [b1] at hbo
          clear b1
          go_enter Try.func17, Try.ntmps17
          go_wp2_with (first
            | (go_at_call 13; refine (hbo.out _ (by repeat (first | exact Below.refl _ _ | refine Below.alloc ?_ (by simp <;> omega) _ | refine Below.setCell ?_ (by simp <;> omega) _ | refine Below.drew ?_))).mono ?_; rintro e w2 ⟨rfl, hb2⟩; have hx2 : w2.heap[w.heap.size]? = some (.cells #[.int .i64 L, .int .i64 G, .bool H, .slice p n c] 24 (0, 0)) := (hb2.block w.heap.size (by simp <;> omega)).trans (heap_new _ _ _ rfl); obtain ⟨x0, x1, x2, x3, -, -, -, -⟩ := cells4 hx2; have HB2 := Lib.hid (below_via hb2 (B := w.heap.size) (w := w) (by repeat (first | exact Below.refl _ _ | refine Below.alloc ?_ (by simp <;> omega) _ | refine Below.setCell ?_ (by simp <;> omega) _ | refine Below.drew ?_)) (by simp <;> omega)); have HX2 := Lib.hid hx2; have hz2' : w.heap.size + 1 ≤ w2.heap.size := (by have := hb2.size; simpa using this); have hlt2 : w.heap.size < w2.heap.size := (by omega); have hne2 : w2.heap.size ≠ w.heap.size := (by omega); clear hx2 hb2)
            | (go_at_call 35; refine (within_any _ _ _ _).mono ?_; rintro e w' ⟨rfl, rfl⟩))
          go_ret2
          rw [HN.out]
          exact ⟨_, (congrArg (fun b => Ending.returned (Value.tuple #[.slice none 0 0, .bool b])) HE.out).symm, own_empty _ _ _ _ _ _ _ (by omega), HB2.out⟩
        · have HP : Hid (OkP L G n z) := okB_iff.1 b1
          obtain ⟨p1, p2⟩ := inB_iff.1 b2
          obtain ⟨p3, p4⟩ := inB_iff.1 b3
          obtain ⟨p5, p6⟩ := inB_iff.1 b4
          have hL4 : L ≤ 400 := HP.out.1.2
          have hn40 : n ≤ 40 := HP.out.2.2.1
          have HY := Lib.hid (fun h5 => win_yes b1 b2 b3 b4 (n := n) (z := z) (place := place) h5)
          have HB5 := Lib.hid (fun h5 => win_bad (L := L) (G := G) (now := now) (slack := slack) (n := n) (z := z) (place := place) (.inr (.inr (.inr (.inr h5)))))
          simp only [b1] at hbo
          clear b1
          go_enter Try.func17, Try.ntmps17
          go_wp2_with (first
            | (go_at_call 13; refine (hbo.out _ (by repeat (first | exact Below.refl _ _ | refine Below.alloc ?_ (by simp <;> omega) _ | refine Below.setCell ?_ (by simp <;> omega) _ | refine Below.drew ?_))).mono ?_; rintro e w2 ⟨rfl, hb2⟩; have hx2 : w2.heap[w.heap.size]? = some (.cells #[.int .i64 L, .int .i64 G, .bool H, .slice p n c] 24 (0, 0)) := (hb2.block w.heap.size (by simp <;> omega)).trans (heap_new _ _ _ rfl); obtain ⟨x0, x1, x2, x3, -, -, -, -⟩ := cells4 hx2; have HB2 := Lib.hid (below_via hb2 (B := w.heap.size) (w := w) (by repeat (first | exact Below.refl _ _ | refine Below.alloc ?_ (by simp <;> omega) _ | refine Below.setCell ?_ (by simp <;> omega) _ | refine Below.drew ?_)) (by simp <;> omega)); have HX2 := Lib.hid hx2; have hz2' : w.heap.size + 1 ≤ w2.heap.size := (by have := hb2.size; simpa using this); have hlt2 : w.heap.size < w2.heap.size := (by omega); have hne2 : w2.heap.size ≠ w.heap.size := (by omega); clear hx2 hb2)
            | (go_at_call 35; refine (within_any _ _ _ _).mono ?_; rintro e w' ⟨rfl, rfl⟩))
          clear x0 x1 x2 x3 b2 b3 b4 hbo
          have hst : (w2.alloc (.cells #[] 46)).ownsRow w2.heap.size 46 3 (.slice (some ⟨w2.heap.size, 0, none⟩) 0 0) (wCo z place 0) ((wTo z place now slack 0).map (Value.int .i64)) := ⟨by simp [wTo, wCo], .inr ⟨w2.heap.size, 0, #[], rfl, Nat.le_refl _, heap_alloc_new _ _, Nat.le_refl _, by decide, by simp, by simp [wTo, wCo]⟩⟩
          have HST := Lib.hid hst
          clear hst
          go_loopw [10, 12, 13, 14, 15, 40] (fun v _ _ _ _ iv wr => ∃ (k : Nat) (vv : Value), k ≤ n ∧ vv = v ∧ iv = .int .i64 (k : Int) ∧ wr.ownsRow w2.heap.size 46 3 vv (wCo z place k) ((wTo z place now slack k).map (Value.int .i64)) ∧ Below w2.heap.size w2 wr) (fun _ _ _ _ _ iv _ => n - (intOf iv).toNat)
          case atStart => exact ⟨0, _, by omega, rfl, rfl, HST.out, (Below.refl _ _).alloc (Nat.le_refl _) _⟩
          case round =>
            obtain ⟨k, vv, hk, rfl, rfl, hown, hbr⟩ := hrel
            have hbw : Below w.heap.size w wr := HB2.out.trans (hbr.mono (by omega))
            have hsr : w2.heap.size ≤ wr.heap.size := hbr.size
            by_cases hkn : k < n
            · obtain ⟨rfl, -, hg⟩ := HF.out.1 (by omega)
              obtain ⟨a0, a1, a2⟩ := HF.out.at3 hbw (Nat.le_refl _) k (by omega)
              obtain ⟨-, -, -, f1, f2, f3⟩ := HP.out.front hkn
              have f0 : 1 ≤ z (k * 3 + 1) := by have := (HP.out.front hkn).2.1; omega
              have hk0 : (0 : Int) ≤ (k : Int) := by omega
              have hkl : (k : Int) < (n : Int) := by omega
              have hwc := wCo_le z place k
              have hcN : wCo z place (k + 1) = wCo z place k + if z (k * 3 + 1) < place then 1 else 0 := rfl
              have hcT : wTo z place now slack (k + 1) = wTo z place now slack k ++ (if z (k * 3 + 1) < place then [z (k * 3), clI (now + place - z (k * 3 + 1) - slack), clI (now + place - z (k * 3 + 1) + slack)] else []) := rfl
              obtain ⟨t0, ht0⟩ : ∃ x, x = z (k * 3) := ⟨_, rfl⟩
              obtain ⟨t1, ht1⟩ : ∃ x, x = z (k * 3 + 1) := ⟨_, rfl⟩
              obtain ⟨t2, ht2⟩ : ∃ x, x = z (k * 3 + 2) := ⟨_, rfl⟩
              rw [← ht0] at a0 hcT
              rw [← ht1] at a1 hcN hcT f0 f2 f3
              rw [← ht2] at a2
              clear ht0 ht1 ht2 f1
              by_cases b5 : t1 < place
              · rw [if_pos b5] at hcN hcT
                obtain ⟨u1, hu1⟩ : ∃ u, u = clI (now + place - t1 - slack) := ⟨_, rfl⟩
                obtain ⟨u2, hu2⟩ : ∃ u, u = clI (now + place - t1 + slack) := ⟨_, rfl⟩
                rw [← hu1, ← hu2] at hcT
                have HK1 := Lib.hid (fun W => iClamp_0 (now + place - t1 - slack) W)
                have HK2 := Lib.hid (fun W => iClamp_0 (now + place - t1 + slack) W)
                rw [← hu1] at HK1
                rw [← hu2] at HK2
                obtain ⟨m, hm⟩ : ∃ m, m = wCo z place k := ⟨_, rfl⟩
                rw [← hm] at hown hcN hwc
                have HCN := Lib.hid hcN
                have HCT := Lib.hid hcT
                have HOWN := Lib.hid hown
                clear hu1 hu2 hm hcN hcT hown
                have tok1 : True := trivial
                go_wp2_with (first
                  | (go_at_call 45; have _t := tok1; (with_reducible refine (HK1.out _).mono ?_); rintro e w' ⟨rfl, rfl⟩; clear tok1)
                  | (go_at_call 45; (with_reducible refine (HK2.out _).mono ?_); rintro e w' ⟨rfl, rfl⟩)
                  | (at_builtin; refine wpList_append_own _ rfl _ _ 41 rfl (w2.heap.size) 46 i0 (.agg #[.int .i64 0, .int .i64 0, .int .i64 0]) 3 24 Try.underlying41 hi hz0 hz1 hz2 rfl (by decide) _ m _ rfl ((HOWN.out.alloc _).alloc _) ⟨wr.heap.size + 1, 0, none⟩ 1 1 [.int .i64 t0, .int .i64 u1, .int .i64 u2] rfl rfl (by intro j u hj; match j, hj with | 0, hj => simp at hj; subst hj; simp [Addr.add] | 1, hj => simp at hj; subst hj; simp [Addr.add] | 2, hj => simp at hj; subst hj; simp [Addr.add]) (by intro u hu; simp at hu; rcases hu with rfl | rfl | rfl <;> rfl) (by unfold maxLen; omega) (by omega) (by simp; omega) ?_; intro v4 w4 hown4 hgrow4 _))
                go_roundw
                case rel => exact ⟨k + 1, _, by omega, rfl, by congr 1, by rw [HCN.out, HCT.out, List.map_append]; exact hown4, ((hbr.alloc hsr _).alloc (by simp; omega) _).grown hgrow4 (by simp; omega) (fun j hj => (HOWN.out.lt j hj).1)⟩
                case measure => simp only [intOf]; omega
              · rw [if_neg b5] at hcN hcT
                have HCN := Lib.hid hcN
                have HCT := Lib.hid hcT
                have HOWN := Lib.hid hown
                clear hcN hcT hown
                go_wp2_with fail
                go_roundw
                case rel => exact ⟨k + 1, _, by omega, rfl, by congr 1, by rw [HCN.out, HCT.out, List.append_nil, Nat.add_zero]; exact HOWN.out.alloc _, hbr.alloc hsr _⟩
                case measure => simp only [intOf]; omega
            · obtain rfl : k = n := by omega
              have HOWN := Lib.hid hown
              have HBW := Lib.hid hbw
              have hwc := wCo_le z place k
              have hlen := wTo_len z place now slack k
              obtain ⟨m, hm⟩ : ∃ m, m = wCo z place k := ⟨_, rfl⟩
              obtain ⟨pv, cv, hpv, -⟩ := ownsRow_slice hown
              subst hpv
              have HY2' := Lib.hid (fun (h5 : m ≤ 6) => HY.out (by rw [← hm]; exact h5))
              have HB6 := Lib.hid (fun (h5 : 6 < m) => HB5.out (by rw [← hm]; exact h5))
              rw [← hm] at HOWN hwc hlen hown HY2' ⊢
              have HLEN := Lib.hid hlen
              have HM := Lib.hid hm
              clear hown hlen hbw hm HY HB5
              by_cases h5 : m ≤ 6
              · obtain ⟨hE, hN⟩ := HY2'.out h5
                have HE := Lib.hid hE
                have HN := Lib.hid hN
                have hd5 : decide (6 < (m : Int)) = false := decide_eq_false (by omega)
                clear hE hN HY2' HB6
                go_wp2_with fail
                go_ret2
                rw [HN.out]
                exact ⟨_, (congrArg (fun b => Ending.returned (Value.tuple #[.slice pv m cv, .bool b])) HE.out).symm, (own_of_list HOWN.out HLEN.out).wide (by omega) (Nat.le_refl _), HBW.out⟩
              · have hE := HB6.out (by omega)
                have hN := win_no hE
                have HE := Lib.hid hE
                have HN := Lib.hid hN
                have hd5 : decide (6 < (m : Int)) = true := decide_eq_true (by omega)
                clear hE hN HY2' HB6
                go_wp2_with fail
                go_ret2
                rw [HN.out]
                exact ⟨_, (congrArg (fun b => Ending.returned (Value.tuple #[.slice none 0 0, .bool b])) HE.out).symm, own_empty _ _ _ _ _ _ _ (by omega), HBW.out⟩

end Go.Proofs.Ytlklggkkkbamhaa
