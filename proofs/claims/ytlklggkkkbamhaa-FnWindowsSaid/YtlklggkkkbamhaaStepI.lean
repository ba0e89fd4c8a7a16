/- The program's step of a belt at work. -/
import Derived.Test.YtlklggkkkbamhaaWorkOn
import Derived.Deep.LoopGhost
import Derived.Deep.RegionWith
namespace Go.Proofs.Ytlklggkkkbamhaa
open Go.RowKit

/-- How many of the first k items move. -/
def mvd (L G : Int) (z : Nat → Int) : Nat → Nat
  | 0 => 0
  | k + 1 => mvd L G z k + if z (k * 3 + 1) < lim L G (stZ L G z) k then 1 else 0
theorem mvd_le (L G : Int) (z : Nat → Int) : ∀ k, mvd L G z k ≤ k
  | 0 => Nat.le_refl _
  | k + 1 => by have := mvd_le L G z k; show mvd L G z k + _ ≤ _; split <;> omega
/-- The row when k items have had their turn. -/
def stK (L G : Int) (z : Nat → Int) (k : Nat) : Nat → Int := fun j => if j < k * 3 then stZ L G z j else z j
theorem lim_stK (L G : Int) (z : Nat → Int) (k : Nat) : lim L G (stK L G z k) k = lim L G (stZ L G z) k := by
  cases k with
  | zero => rfl
  | succ k => show stK L G z (k + 1) (k * 3 + 1) - stK L G z (k + 1) (k * 3 + 2) - G = stZ L G z (k * 3 + 1) - stZ L G z (k * 3 + 2) - G; unfold stK; rw [if_pos (by omega), if_pos (by omega)]

set_option maxRecDepth 100000 in
set_option maxHeartbeats 4000000 in
theorem step_any (n : Nat) (z : Nat → Int) (p : Option Addr) (c g o lo hi : Nat) (L G : Int) (H : Bool) (b : Nat) (w : World) (hok : OkP L G n z) (hb : WB w b L G H (.slice p n c)) (h : FlatAt w lo hi p g o (n * 3) (fun j => .int .i64 (z j))) (hf : FreeAt w g o (n * 3)) (hh : hi ≤ w.heap.size) (hne : 0 < n → g ≠ b) :
    Calls Try.prog 50 #[.pointer (some ⟨b, 0, none⟩)] w fun e w' => e = .returned (.int .i64 (mvd L G z n : Nat)) ∧ FlatAt w' lo hi p g o (n * 3) (fun j => .int .i64 (stZ L G z j)) ∧ FreeAt w' g o (n * 3) ∧ w.grownBy w' (some g) := by
  have hn : n ≤ 40 := hok.2.2.1
  obtain ⟨q0, q1, q2, q3, q4⟩ := hb.cells
  have hblt := hb.lt
  have c3 := cellsItemI
  have HB := Lib.hid hb
  have HF := Lib.hid h
  have HR := Lib.hid hf
  have HOK := Lib.hid hok
  have HNE := Lib.hid hne
  clear h hf hok hb hne
  go_enter Try.func50, Try.ntmps50
  go_wp2_with fail
  go_loopw [3, 11] (fun m v wr => ∃ k : Nat, k ≤ n ∧ v = .int .i64 (k : Int) ∧ m = .int .i64 ((mvd L G z k : Nat) : Int) ∧ FlatAt wr lo hi p g o (n * 3) (fun j => .int .i64 (stK L G z k j)) ∧ FreeAt wr g o (n * 3) ∧ w.grownBy wr (some g)) (fun _ v _ => n - (intOf v).toNat)
  case atStart => exact ⟨0, by omega, rfl, rfl, HF.out.congr (fun j hj => by show _ = Value.int .i64 (stK L G z 0 j); unfold stK; rw [if_neg (by omega)]), HR.out, ⟨rfl, rfl, rfl, Nat.le_refl _, fun _ _ _ => rfl⟩⟩
  case round =>
    obtain ⟨k, hk, rfl, rfl, h1, h2, hgr⟩ := hrel
    by_cases hkn : k < n
    · obtain ⟨rfl, hlo, hg⟩ := h1.1 (by omega)
      have hgb : g ≠ b := HNE.out (by omega)
      have hwb : WB wr b L G H (.slice (some ⟨g, o, none⟩) n c) := HB.out.keep (hgr.block b hblt (by intro e; injection e with e; exact hgb e.symm))
      obtain ⟨q0', q1', q2', q3', q4'⟩ := hwb.cells
      obtain ⟨a0, a1, a2⟩ := h1.at3 (Below.refl hi wr) (Nat.le_refl _) k (by omega)
      have e0 : stK L G z k (k * 3) = z (k * 3) := if_neg (by omega)
      have e1 : stK L G z k (k * 3 + 1) = z (k * 3 + 1) := if_neg (by omega)
      have e2 : stK L G z k (k * 3 + 2) = z (k * 3 + 2) := if_neg (by omega)
      rw [e0] at a0
      rw [e1] at a1
      rw [e2] at a2
      have hk0 : (0 : Int) ≤ (k : Int) := by omega
      have hkl : (k : Int) < (n : Int) := by omega
      obtain ⟨-, -, -, -, v1, v2⟩ := HOK.out.front hkn
      have v0 : 0 ≤ z (k * 3 + 1) := by have := HOK.out.front hkn; omega
      have hm := lim_lo HOK.out.step (k := k) (by omega)
      have hre := Lib.hid (fun W (hW : Below wr.heap.size wr W) => reach_any n (by unfold maxLen; omega) (stK L G z k) (some ⟨g, o, none⟩) c g o L G H b W (hwb.below hW hwb.lt) ((h1.below hW (by have := hgr.size; omega)).wide (Nat.zero_le _) (by have := hgr.size; have := hW.size; omega)) k hk HOK.out.2.1 (fun hk1 => by
        have hfr := HOK.out.step.front (k := k - 1) (by omega)
        have h3 : stK L G z k ((k - 1) * 3 + 1) = stZ L G z ((k - 1) * 3 + 1) := if_pos (by omega)
        have h4 : stK L G z k ((k - 1) * 3 + 2) = stZ L G z ((k - 1) * 3 + 2) := if_pos (by omega)
        rw [h3, h4]
        omega))
      simp only [lim_stK] at hre
      have hst : stZ L G z (k * 3 + 1) = adv (z (k * 3 + 1)) (lim L G (stZ L G z) k) := by rw [stZ_front, stF_eq]
      obtain ⟨x0, hx0⟩ : ∃ x, x = z (k * 3) := ⟨_, rfl⟩
      obtain ⟨x1, hx1⟩ : ∃ x, x = z (k * 3 + 1) := ⟨_, rfl⟩
      obtain ⟨x2, hx2⟩ : ∃ x, x = z (k * 3 + 2) := ⟨_, rfl⟩
      obtain ⟨m, hmm⟩ : ∃ m, m = lim L G (stZ L G z) k := ⟨_, rfl⟩
      have hcnt : mvd L G z (k + 1) = mvd L G z k + if x1 < m then 1 else 0 := by rw [hx1, hmm]; rfl
      rw [← hx0] at a0
      rw [← hx1] at a1 v0 v1 v2 hst
      rw [← hx2] at a2
      rw [← hmm] at hre hm hst
      obtain ⟨hm0, hm1⟩ := hm
      have hgw : g < wr.heap.size := by have := hgr.size; omega
      have hfz : wr.frozen? ⟨g, o + k * 3 + 1, none⟩ = false := h2 (k * 3 + 1) (by omega)
      obtain ⟨q, hq⟩ : ∃ q : Nat, q = mvd L G z k := ⟨_, rfl⟩
      have hq40 : q ≤ 40 := by rw [hq]; have := mvd_le L G z k; omega
      rw [← hq] at hcnt ⊢
      have HCNT := Lib.hid hcnt
      have HX1 : Hid (x1 = z (k * 3 + 1)) := hx1
      have HST := Lib.hid hst
      have H1 := Lib.hid h1
      have H2 := Lib.hid h2
      have HG := Lib.hid hgr
      have hbw := hwb.lt
      obtain ⟨wo, hwo⟩ : ∃ wo, wo = wr.alloc (.cells #[.int .i64 x0, .int .i64 x1, .int .i64 x2] 32) := ⟨_, rfl⟩
      have hbr : Below wr.heap.size wr wo := by rw [hwo]; exact (Below.refl _ _).alloc (Nat.le_refl _) _
      have d1 : wo.cell? ⟨wr.heap.size, 1, none⟩ = some (.int .i64 x1) := by rw [hwo, cell_of_row _ _ _ _ _ _ (heap_alloc_new wr _)]; rfl
      have hso : wr.heap.size < wo.heap.size := by rw [hwo]; simp
      have HWO := Lib.hid hwo
      have A1 := Lib.hid a1
      have FZ := Lib.hid hfz
      clear h1 h2 hgr hwb hx0 hx1 hx2 hmm hst hcnt hq e0 e1 e2 hwo hfz
      go_wp2_with fail
      rw [← HWO.out]
      clear a0 a1 a2
      go_region_with (go_at_call 41; refine (hre.out _ (by first | exact hbr | exact hbr.drew | exact below_drewN' hbr _)).mono ?_; rintro e w2 ⟨rfl, hb2⟩; have d1' := (hb2.cell (p := ⟨wr.heap.size, 1, none⟩) (by simp; omega)).trans d1)
      all_goals
        have hr2 : Below wr.heap.size wr w2 := below_via hb2 (by first | exact hbr | exact hbr.drew | exact below_drewN' hbr _) (by simp; omega)
        have hs2 : wo.heap.size ≤ w2.heap.size := by have := hb2.size; simpa using this
        clear d1 d1' hb2
        have q3'' := (hr2.cell (p := ⟨b, 3, none⟩) hbw).trans q3'
        have a1 := (hr2.cell (p := ⟨g, o + k * 3 + 1, none⟩) hgw).trans A1.out
        have fz := (hr2.frozen (p := ⟨g, o + k * 3 + 1, none⟩) hgw).trans FZ.out
        have H12 := H1.out.below hr2 (by have := HG.out.size; omega)
        have HH1 := Lib.hid H12
        have hsg : w.grownBy w2 (some g) := grown_below HG.out hr2
        have HSG := Lib.hid hsg
        have hf2 : FreeAt w2 g o (n * 3) := H2.out.below hr2 (fun _ => hgw)
        have HF2 := Lib.hid hf2
        clear H12 hsg hf2 q0' q1' q2' q3'
        by_cases hx : x1 < m
        · have hd : decide (x1 < m) = true := decide_eq_true hx
          have HS : Hid (FlatAt (w2.setCell ⟨g, o + (k * 3 + 1), none⟩ (.int .i64 (x1 + 1))) lo hi (some ⟨g, o, none⟩) g o (n * 3) (fun j => if j = k * 3 + 1 then .int .i64 (x1 + 1) else .int .i64 (stK L G z k j))) := HH1.out.set (k * 3 + 1) (by omega)
          have HS2 : Hid (FreeAt (w2.setCell ⟨g, o + (k * 3 + 1), none⟩ (.int .i64 (x1 + 1))) g o (n * 3)) := HF2.out.set _ _
          have HS3 : Hid (w.grownBy (w2.setCell ⟨g, o + (k * 3 + 1), none⟩ (.int .i64 (x1 + 1))) (some g)) := grown_setCell HSG.out (.inl rfl) _
          have HX := Lib.hid hx
          go_wp2_with fail
          go_roundw
          case rel =>
            refine ⟨k + 1, by omega, by congr 1, by rw [HCNT.out, if_pos HX.out]; rfl, HS.out.congr ?_, HS2.out, HS3.out⟩
            intro j hj
            show (if _ then _ else _) = Value.int .i64 (stK L G z (k + 1) j)
            by_cases ej : j = k * 3 + 1
            · subst ej
              rw [if_pos rfl]
              unfold stK
              rw [if_pos (by omega), HST.out]
              unfold adv
              rw [if_pos HX.out]
            · rw [if_neg ej]
              unfold stK
              by_cases e3 : j < k * 3
              · rw [if_pos e3, if_pos (by omega)]
              · rw [if_neg e3]
                by_cases e4 : j < (k + 1) * 3
                · rw [if_pos e4]; unfold stZ; rw [if_neg (by omega)]
                · rw [if_neg e4]
          case measure => simp only [intOf]; omega
        · have hd : decide (x1 < m) = false := decide_eq_false hx
          have HX := Lib.hid hx
          go_wp2_with fail
          go_roundw
          case rel =>
            refine ⟨k + 1, by omega, by congr 1, by rw [HCNT.out, if_neg HX.out]; rfl, HH1.out.congr ?_, HF2.out, HSG.out⟩
            intro j hj
            show Value.int .i64 (stK L G z k j) = Value.int .i64 (stK L G z (k + 1) j)
            unfold stK
            by_cases e3 : j < k * 3
            · rw [if_pos e3, if_pos (by omega)]
            · rw [if_neg e3]
              by_cases e4 : j < (k + 1) * 3
              · rw [if_pos e4]
                by_cases ej : j = k * 3 + 1
                · subst ej; rw [HST.out]; unfold adv; rw [if_neg HX.out]; rw [HX1.out]
                · unfold stZ; rw [if_neg (by omega)]
              · rw [if_neg e4]
          case measure => simp only [intOf]; omega
    · obtain rfl : k = n := by omega
      have H1 := Lib.hid h1
      have H2 := Lib.hid h2
      have HG := Lib.hid hgr
      clear h1 h2 hgr
      go_wp2_with fail
      go_ret
      exact ⟨rfl, H1.out.congr (fun j hj => by show Value.int .i64 (stK L G z k j) = _; unfold stK; rw [if_pos hj]), H2.out, HG.out⟩


theorem step_touch (n : Nat) (z : Nat → Int) (p : Option Addr) (c g o lo hi : Nat) (L G : Int) (H : Bool) (b : Nat) (w : World) (hok : OkP L G n z) (hb : WB w b L G H (.slice p n c)) (h : FlatAt w lo hi p g o (n * 3) (fun j => .int .i64 (z j))) (hf : FreeAt w g o (n * 3)) (hh : hi ≤ w.heap.size) (hne : 0 < n → g ≠ b) :
    Calls Try.prog 50 #[.pointer (some ⟨b, 0, none⟩)] w fun e w' => e = .returned (.int .i64 (mvd L G z n : Nat)) ∧ FlatAt w' lo hi p g o (n * 3) (fun j => .int .i64 (stZ L G z j)) ∧ FreeAt w' g o (n * 3) ∧ WB w' b L G H (.slice p n c) ∧ Touch lo hi w w' := by
  rcases Nat.eq_zero_or_pos n with h0 | h0
  · subst h0
    refine (step_any 0 z p c w.heap.size o lo hi L G H b w hok hb (FlatAt.zero _ _ _ _ _ _ _) (fun j hj => absurd hj (by omega)) hh (fun h => absurd h (by omega))).mono ?_
    rintro e w' ⟨h1, h2, h3, h4⟩
    exact ⟨h1, FlatAt.zero _ _ _ _ _ _ _, (fun j hj => absurd hj (by omega)), hb.keep (h4.block b hb.lt (by have := hb.lt; intro e; injection e with e; omega)), Touch.of_grown h4 (fun k hk _ e => by injection e with e; omega)⟩
  · refine (step_any n z p c g o lo hi L G H b w hok hb h hf hh hne).mono ?_
    rintro e w' ⟨h1, h2, h3, h4⟩
    have hg := h.1 (by omega)
    exact ⟨h1, h2, h3, hb.keep (h4.block b hb.lt (by have := hne h0; intro e; injection e with e; omega)), Touch.of_grown h4 (fun k hk ho e => by injection e with e; omega)⟩

end Go.Proofs.Ytlklggkkkbamhaa
