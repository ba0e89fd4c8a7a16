/- One step of the model's belt: l02Step. -/
import Derived.Test.YtlklggkkkbamhaaStepI
namespace Go.Proofs.Ytlklggkkkbamhaa
open Go.RowKit

set_option maxRecDepth 100000 in
set_option maxHeartbeats 4000000 in
theorem sStep_any (n : Nat) (z : Nat → Int) (p : Option Addr) (c g o : Nat) (L G : Int) (H : Bool) (w : World) (hok : OkP L G n z) (h : FlatAt w 0 w.heap.size p g o (n * 3) (fun j => .int .i64 (z j))) :
    Calls Try.prog 38 #[.agg #[.int .i64 L, .int .i64 G, .bool H, .slice p n c]] w fun e w' => ∃ p' c', e = .returned (.agg #[.int .i64 L, .int .i64 G, .bool H, .slice p' n c']) ∧ n ≤ c' ∧ RowNew w' w.heap.size p' (n * 3) (stZ L G z) ∧ Below w.heap.size w w' := by
  have hn : n ≤ 40 := hok.2.2.1
  obtain ⟨i0, hi, hz0, hz1, hz2⟩ := info_parts infoItem
  have HF := Lib.hid (fun W (hb : Below w.heap.size w W) => (h.below hb (Nat.le_refl _)).wide (Nat.zero_le _) (hb.size))
  have c3 := cellsItemI
  have HOK := Lib.hid hok
  clear h hok
  go_enter Try.func38, Try.ntmps38
  go_wp2_with (at_builtin; refine wpList_copy _ rfl (.tmp 6) (.tmp 8) _ rfl (w.heap.size + 1 + 1) 32 i0 _ 3 24 Try.underlying22 hi hz0 hz1 hz2 rfl (by decide) (w.heap.size + 1 + 1) rfl (heap_new _ _ _ (by simp)) (by omega) p n c rfl 0 _ g o (fun j => .int .i64 (z j)) (HF.out _ (by repeat (first | exact Below.refl _ _ | refine Below.alloc ?_ (by simp <;> omega) _))) (fun _ _ => rfl) (by unfold maxLen; omega) (by omega) ?_; intro p' c' w2 hcc hown hgr; have hB0 : w2.heap[w.heap.size]? = some (.cells #[.int .i64 L, .int .i64 G, .bool H, .slice p n c] 24 (0, 0)) := (hgr.block _ (by simp <;> omega) (by simp <;> omega)).trans ((heap_old _ _ _ (by simp <;> omega)).trans ((heap_old _ _ _ (by simp <;> omega)).trans (heap_new _ _ _ (by simp)))); have hB1 : w2.heap[w.heap.size + 1]? = some (.cells #[.int .i64 0, .int .i64 0, .bool false, .slice none 0 0] 24 (0, 0)) := (hgr.block _ (by simp <;> omega) (by simp <;> omega)).trans ((heap_old _ _ _ (by simp <;> omega)).trans (heap_new _ _ _ (by simp))); have hs2 : w.heap.size + 1 + 1 + 1 ≤ w2.heap.size := (by have := hgr.size; simpa using this); have hw2 : Below w.heap.size w w2 := Below.grown (by repeat (first | exact Below.refl _ _ | refine Below.alloc ?_ (by simp <;> omega) _)) hgr (by simp <;> omega) (by intro k hk; injection hk with hk; omega); have HB0 := Lib.hid hB0; have HB1 := Lib.hid hB1; have HW2 := Lib.hid hw2; clear hB0 hB1 hgr hw2)
  obtain ⟨g', f1, f2⟩ := FlatAt.of_own hown (f := fun j => .int .i64 (z j)) (fun j hj => by rw [List.getElem?_map, List.getElem?_range hj]; rfl)
  have F1 := Lib.hid f1
  have F2 := Lib.hid f2
  clear f1 f2 hown
  go_loopw [4] (fun v wr => ∃ k : Nat, k ≤ n ∧ v = .int .i64 (k : Int) ∧ FlatAt wr (w.heap.size + 1 + 1) w2.heap.size p' g' 0 (n * 3) (fun j => .int .i64 (stK L G z k j)) ∧ FreeAt wr g' 0 (n * 3) ∧ wr.heap[w.heap.size]? = some (.cells #[.int .i64 L, .int .i64 G, .bool H, .slice p n c] 24 (0, 0)) ∧ wr.heap[w.heap.size + 1]? = some (.cells #[.int .i64 0, .int .i64 0, .bool false, .slice none 0 0] 24 (0, 0)) ∧ w2.heap.size ≤ wr.heap.size ∧ Below w.heap.size w wr) (fun v _ => n - (intOf v).toNat)
  case atStart => exact ⟨0, by omega, rfl, F1.out.congr (fun j hj => by show _ = Value.int .i64 (stK L G z 0 j); unfold stK; rw [if_neg (by omega)]), F2.out, HB0.out, HB1.out, Nat.le_refl _, HW2.out⟩
  case round =>
    obtain ⟨k, hk, rfl, h1, h2, h3, h4, h5, h6⟩ := hrel
    obtain ⟨x0, x1, x2, x3, y0, y1, y2, y3⟩ := cells4 h3
    have H3 := Lib.hid h3
    have H4 := Lib.hid h4
    by_cases hkn : k < n
    · obtain ⟨rfl, hlo, hg⟩ := h1.1 (by omega)
      obtain ⟨a0, a1, a2⟩ := h1.at3 (Below.refl w2.heap.size wr) (Nat.le_refl _) k (by omega)
      have e1 : stK L G z k (k * 3 + 1) = z (k * 3 + 1) := if_neg (by omega)
      rw [e1] at a1
      simp only [Nat.zero_add] at a0 a1 a2
      have hk0 : (0 : Int) ≤ (k : Int) := by omega
      have hkl : (k : Int) < (n : Int) := by omega
      obtain ⟨-, -, -, v0, v1, v2⟩ := HOK.out.front hkn
      have v3 : 0 ≤ z (k * 3 + 1) := by have := HOK.out.front hkn; omega
      have hst : stZ L G z (k * 3 + 1) = adv (z (k * 3 + 1)) (lim L G (stZ L G z) k) := by rw [stZ_front, stF_eq]
      have hL := HOK.out.1
      have hG := HOK.out.2.1
      have hfz : wr.frozen? ⟨g', k * 3 + 1, none⟩ = false := by have := h2 (k * 3 + 1) (by omega); rwa [Nat.zero_add] at this
      obtain ⟨t1, ht1⟩ : ∃ x, x = z (k * 3 + 1) := ⟨_, rfl⟩
      have HT1 : Hid (t1 = z (k * 3 + 1)) := ht1
      rw [← ht1] at a1 v0 v1 v2 v3 hst
      have HST := Lib.hid hst
      have H1 := Lib.hid h1
      have H2 := Lib.hid h2
      have H6 := Lib.hid h6
      obtain ⟨hL0, hL1⟩ := hL
      obtain ⟨hG0, hG1⟩ := hG
      -- what the round leaves
      have hrow : ∀ W m, m = lim L G (stZ L G z) k → (t1 < m → FlatAt W (w.heap.size + 1 + 1) w2.heap.size (some ⟨g', 0, none⟩) g' 0 (n * 3) (fun j => if j = k * 3 + 1 then .int .i64 (t1 + 1) else .int .i64 (stK L G z k j)) → FlatAt W (w.heap.size + 1 + 1) w2.heap.size (some ⟨g', 0, none⟩) g' 0 (n * 3) (fun j => .int .i64 (stK L G z (k + 1) j))) ∧ (¬ t1 < m → FlatAt W (w.heap.size + 1 + 1) w2.heap.size (some ⟨g', 0, none⟩) g' 0 (n * 3) (fun j => .int .i64 (stK L G z k j)) → FlatAt W (w.heap.size + 1 + 1) w2.heap.size (some ⟨g', 0, none⟩) g' 0 (n * 3) (fun j => .int .i64 (stK L G z (k + 1) j))) := by
        intro W m hm
        constructor
        · intro hx hf
          refine hf.congr fun j hj => ?_
          show (if _ then _ else _) = Value.int .i64 (stK L G z (k + 1) j)
          by_cases ej : j = k * 3 + 1
          · subst ej
            rw [if_pos rfl]
            unfold stK
            rw [if_pos (by omega), HST.out, ← hm]
            unfold adv
            rw [if_pos hx]
          · rw [if_neg ej]
            unfold stK
            by_cases e3 : j < k * 3
            · rw [if_pos e3, if_pos (by omega)]
            · rw [if_neg e3]
              by_cases e4 : j < (k + 1) * 3
              · rw [if_pos e4]; unfold stZ; rw [if_neg (by omega)]
              · rw [if_neg e4]
        · intro hx hf
          refine hf.congr fun j hj => ?_
          show Value.int .i64 (stK L G z k j) = Value.int .i64 (stK L G z (k + 1) j)
          unfold stK
          by_cases e3 : j < k * 3
          · rw [if_pos e3, if_pos (by omega)]
          · rw [if_neg e3]
            by_cases e4 : j < (k + 1) * 3
            · rw [if_pos e4]
              by_cases ej : j = k * 3 + 1
              · subst ej; rw [HST.out, ← hm]; unfold adv; rw [if_neg hx]; rw [HT1.out]
              · unfold stZ; rw [if_neg (by omega)]
            · rw [if_neg e4]
      have HROW := Lib.hid hrow
      have hg1 : g' ≠ w.heap.size := by omega
      have hg2 : g' ≠ w.heap.size + 1 := by omega
      clear hrow h1 h2 h3 h4 h6 ht1 hst e1 hfz a0 a2
      have hfz : wr.frozen? ⟨g', k * 3 + 1, none⟩ = false := by have := H2.out (k * 3 + 1) (by omega); rwa [Nat.zero_add] at this
      by_cases hk1 : k = 0
      · have HM : Hid (L = lim L G (stZ L G z) k) := by rw [hk1]; exact rfl
        have hgt : decide ((0 : Int) < (k : Int)) = false := decide_eq_false (by omega)
        have hgtN : decide (0 < k) = false := decide_eq_false (by omega)
        clear hk1
        by_cases hx : t1 < L
        · have hd : decide (t1 < L) = true := decide_eq_true hx
          have HS : Hid (FlatAt ((wr).setCell ⟨g', k * 3 + 1, none⟩ (.int .i64 (t1 + 1))) (w.heap.size + 1 + 1) w2.heap.size (some ⟨g', 0, none⟩) g' 0 (n * 3) (fun j => .int .i64 (stK L G z (k + 1) j))) := (HROW.out _ _ HM.out).1 (by omega) (by have := FlatAt.set (w := wr) (u := .int .i64 (t1 + 1)) H1.out (k * 3 + 1) (by omega); rwa [Nat.zero_add] at this)
          clear hx
          go_wp2_with fail
          go_roundw
          case rel => exact ⟨k + 1, by omega, by congr 1, HS.out, H2.out.set _ _, (Below.heap_setCell _ _ _ _ (by show w.heap.size ≠ g'; omega)).trans H3.out, (Below.heap_setCell _ _ _ _ (by show w.heap.size + 1 ≠ g'; omega)).trans H4.out, by simpa [World.setCell] using h5, Below.setCell H6.out (by show _ ≤ g'; omega) _⟩
          case measure => simp only [intOf]; omega
        · have hd : decide (t1 < L) = false := decide_eq_false hx
          have HS : Hid (FlatAt (wr) (w.heap.size + 1 + 1) w2.heap.size (some ⟨g', 0, none⟩) g' 0 (n * 3) (fun j => .int .i64 (stK L G z (k + 1) j))) := (HROW.out _ _ HM.out).2 (by omega) H1.out
          clear hx
          go_wp2_with fail
          go_roundw
          case rel => exact ⟨k + 1, by omega, by congr 1, HS.out, H2.out, H3.out, H4.out, h5, H6.out⟩
          case measure => simp only [intOf]; omega
      · obtain ⟨i, hi1⟩ : ∃ i, k = i + 1 := ⟨k - 1, by omega⟩
        obtain ⟨c0, c1, c2⟩ := H1.out.at3 (Below.refl w2.heap.size wr) (Nat.le_refl _) i (by omega)
        have e3 : stK L G z k (i * 3 + 1) = stZ L G z (i * 3 + 1) := if_pos (by omega)
        have e4 : stK L G z k (i * 3 + 2) = stZ L G z (i * 3 + 2) := if_pos (by omega)
        rw [e3] at c1
        rw [e4] at c2
        simp only [Nat.zero_add] at c0 c1 c2
        obtain ⟨b1, b2, b3, b4, b5, b6⟩ := HOK.out.step.front (k := i) (by omega)
        have HM : Hid (stZ L G z (i * 3 + 1) - stZ L G z (i * 3 + 2) - G = lim L G (stZ L G z) k) := by rw [hi1]; exact rfl
        obtain ⟨r1, hr1⟩ : ∃ x, x = stZ L G z (i * 3 + 1) := ⟨_, rfl⟩
        obtain ⟨r2, hr2⟩ : ∃ x, x = stZ L G z (i * 3 + 2) := ⟨_, rfl⟩
        rw [← hr1] at c1 b4 b5 b6 HM
        rw [← hr2] at c2 b2 b3 b4 HM
        have hkm : (k : Int) - 1 = (i : Int) := by omega
        have hi0 : (0 : Int) ≤ (i : Int) := by omega
        have hin : (i : Int) < (n : Int) := by omega
        have hgt : decide ((0 : Int) < (k : Int)) = true := decide_eq_true (by omega)
        have hgtN : decide (0 < k) = true := decide_eq_true (by omega)
        clear e3 e4 hr1 hr2 c0 b1 hk1
        have HI := Lib.hid hi1
        clear hi1
        go_wp2_with fail
        go_quiet (fail)
        by_cases hx : t1 < r1 - r2 - G
        · have hd : decide (t1 < r1 - r2 - G) = true := decide_eq_true hx
          have HS : Hid (FlatAt ((wr.drewN nq).setCell ⟨g', k * 3 + 1, none⟩ (.int .i64 (t1 + 1))) (w.heap.size + 1 + 1) w2.heap.size (some ⟨g', 0, none⟩) g' 0 (n * 3) (fun j => .int .i64 (stK L G z (k + 1) j))) := (HROW.out _ _ HM.out).1 (by omega) (by have := FlatAt.set (w := wr.drewN nq) (u := .int .i64 (t1 + 1)) H1.out (k * 3 + 1) (by omega); rwa [Nat.zero_add] at this)
          clear hx
          go_wp2_with fail
          go_roundw
          case rel => exact ⟨k + 1, by omega, by congr 1, HS.out, H2.out.set _ _, (Below.heap_setCell _ _ _ _ (by show w.heap.size ≠ g'; omega)).trans H3.out, (Below.heap_setCell _ _ _ _ (by show w.heap.size + 1 ≠ g'; omega)).trans H4.out, by simpa [World.setCell] using h5, Below.setCell (below_drewN' H6.out _) (by show _ ≤ g'; omega) _⟩
          case measure => simp only [intOf]; omega
        · have hd : decide (t1 < r1 - r2 - G) = false := decide_eq_false hx
          have HS : Hid (FlatAt (wr.drewN nq) (w.heap.size + 1 + 1) w2.heap.size (some ⟨g', 0, none⟩) g' 0 (n * 3) (fun j => .int .i64 (stK L G z (k + 1) j))) := (HROW.out _ _ HM.out).2 (by omega) H1.out
          clear hx
          go_wp2_with fail
          go_roundw
          case rel => exact ⟨k + 1, by omega, by congr 1, HS.out, H2.out, H3.out, H4.out, h5, below_drewN' H6.out _⟩
          case measure => simp only [intOf]; omega
    · obtain rfl : k = n := by omega
      have H1 := Lib.hid h1
      have H2 := Lib.hid h2
      have H6 := Lib.hid h6
      clear h1 h2 h3 h4 h6
      have q0 := x0
      obtain ⟨-, -, -, -, -, -, -, xf⟩ := cells4 H3.out
      obtain ⟨z0, z1, z2, z3, z4, z5, z6, z7⟩ := cells4 H4.out
      go_wp2_with fail
      refine bodyPost_ret (v := .agg #[.int .i64 L, .int .i64 G, .bool H, .slice p' k c']) (by simp [results, Try.results38, go_sem, z0, z1, z2, z3]) rfl ⟨p', c', rfl, hcc, ?_, ?_⟩
      · exact ((((((RowNew.of_flat (B := w.heap.size + 1 + 1) (H1.out.congr (fun j hj => by show _ = Value.int .i64 (stZ L G z j); unfold stK; rw [if_pos hj])) H2.out (Nat.le_refl _) h5).far _ (by simp <;> omega)).far _ (by simp <;> omega)).far _ (by simp <;> omega)).far _ (by simp <;> omega)).far _ (by simp <;> omega)).wide (by omega)
      · exact ((((H6.out.setCell (by simp <;> omega) _).setCell (by simp <;> omega) _).setCell (by simp <;> omega) _).setCell (by simp <;> omega) _).setCell (by simp <;> omega) _

end Go.Proofs.Ytlklggkkkbamhaa
