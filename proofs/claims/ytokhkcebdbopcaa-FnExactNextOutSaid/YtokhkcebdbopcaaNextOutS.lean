/- What the model's NextOut returns. -/
import Derived.Test.YtokhkcebdbopcaaNextPlain
import Derived.Test.YtokhkcebdbopcaaStoreOkS
namespace Go.Proofs.Ytokhkcebdbopcaa
open Go.RowKit
set_option linter.unusedVariables false

theorem cellsB2 {w : World} {k : Nat} {a b : Value} {t : TypeId} (h : w.heap[k]? = some (.cells #[a, b] t (0, 0))) :
    w.cell? ⟨k, 0, none⟩ = some a ∧ w.cell? ⟨k, 1, none⟩ = some b ∧ w.frozen? ⟨k, 0, none⟩ = false ∧ w.frozen? ⟨k, 1, none⟩ = false :=
  ⟨by simp [World.cell?, h], by simp [World.cell?, h], by simp [World.frozen?, h], by simp [World.frozen?, h]⟩

set_option maxRecDepth 100000 in
set_option maxHeartbeats 8000000 in
theorem sNextOut_any (D : Int) (n : Nat) (hn : n ≤ maxLen) (p : Option Addr) (c : Nat) (nn : Nat → Nat) (hm : ∀ i, i < n → nn i ≤ maxLen) (xx : Nat → Nat → Int) (w : World) (h : LRd w (.slice p n c) n nn xx) :
    Calls Try.prog 33 #[.agg #[.int .i64 D, .slice p n c]] w fun e w' => e = .returned (.int .i64 (nxB D n nn xx)) ∧ Below w.heap.size w w' := by
  have ck := cellsKeptS
  have hok := Lib.hid (fun W (hW : Below w.heap.size w W) => sStoreOk_any D n hn p c nn hm xx W (h.later hW))
  by_cases hst : stO D n nn xx
  rotate_left
  · have HN := Lib.hid (show nxB D n nn xx = 0 from if_neg hst)
    simp only [decide_eq_false hst] at hok
    obtain ⟨R, hR⟩ : ∃ R, R = nxB D n nn xx := ⟨_, rfl⟩
    rw [← hR] at HN ⊢
    obtain rfl := HN.out
    clear hR hst h
    go_enter Try.func33, Try.ntmps33
    go_wp2_with (go_at_call 16; refine (hok.out _ (by repeat (first | exact Below.refl _ _ | refine Below.alloc ?_ (by simp <;> omega) _ | refine Below.drew ?_))).mono ?_; rintro e w2 ⟨rfl, hb2⟩; have HB2 := Lib.hid (below_via hb2 (B := w.heap.size) (w := w) (by repeat (first | exact Below.refl _ _ | refine Below.alloc ?_ (by simp <;> omega) _ | refine Below.drew ?_)) (by simp)); clear hb2)
    go_ret
    exact ⟨rfl, HB2.out⟩
  have HR0 := Lib.hid (show nxB D n nn xx = (nxL nn xx n).2 from if_pos hst)
  have HST := Lib.hid hst
  simp only [decide_eq_true hst] at hok
  have hn4 : n ≤ 4 := hst.2.1.2
  have hm5 : ∀ i, i < n → nn i ≤ 5 := fun i hi => by have := (hst.2.2.1 i hi).1; have := hst.1.2; omega
  obtain ⟨R, hR⟩ : ∃ R, R = nxB D n nn xx := ⟨_, rfl⟩
  rw [← hR] at HR0 ⊢
  obtain ⟨p0, c0, g, o, s, he, hc, hf, hr⟩ := h
  injection he with e1 e2 e3
  subst e1 e3
  clear e2
  have H := Lib.hid hf
  have HR := Lib.hid hr
  have HM := Lib.hid hm5
  clear hR hst hf hr hm hm5
  go_enter Try.func33, Try.ntmps33
  go_wp2_with (go_at_call 16; refine (hok.out _ (by repeat (first | exact Below.refl _ _ | refine Below.alloc ?_ (by simp <;> omega) _ | refine Below.drew ?_))).mono ?_; rintro e w2 ⟨rfl, hb2⟩; have HB2 := Lib.hid (below_via hb2 (B := w.heap.size) (w := w) (by repeat (first | exact Below.refl _ _ | refine Below.alloc ?_ (by simp <;> omega) _ | refine Below.drew ?_)) (by simp)); have hs2 : w.heap.size < w2.heap.size := (by have := hb2.size; simp at this; omega); have X2 := Lib.hid ((hb2.block w.heap.size (by simp)).trans (heap_new _ _ _ rfl)); clear hb2)
  go_loopw [4] (fun iv wr => ∃ (k : Nat) (bb tt : Int), k ≤ n ∧ iv = .int .i64 (k : Int) ∧ wr.heap[w2.heap.size]? = some (.cells #[.int .i64 bb, .int .i64 tt] 49 (0, 0)) ∧ Hid ((tt, bb) = nxL nn xx k) ∧ Hid (Below w2.heap.size w2 wr)) (fun iv _ => n - (intOf iv).toNat)
  case atStart => exact ⟨0, 0, 100001, by omega, rfl, by first | exact heap_new _ _ _ rfl | (rw [heap_new _ _ _ rfl]; rfl), rfl, (Below.refl _ _).alloc (Nat.le_refl _) _⟩
  case round =>
    obtain ⟨k, bb, tt, hk, rfl, hbx, HT, HB⟩ := hrel
    have hwl : w.heap.size ≤ w2.heap.size := by omega
    have HBW := Lib.hid (HB2.out.trans (HB.out.mono hwl))
    have X3 := (HB.out.block w.heap.size hs2).trans X2.out
    obtain ⟨-, b1, -, -⟩ := cellsB2 X3
    have hgt : w2.heap.size < wr.heap.size := (Array.getElem?_eq_some_iff.1 hbx).1
    have HBX := Lib.hid hbx
    clear X3 hbx
    by_cases hkn : k < n
    · obtain ⟨rfl, -, hg⟩ := H.out.1 (by omega)
      obtain ⟨p1, c1, g1, o1, e1, hc1, hf1⟩ := HR.out k hkn
      have hs0 := H.out.2 k hkn
      rw [e1] at hs0
      have hml := HM.out k hkn
      have hk0 : (0 : Int) ≤ (k : Int) := by omega
      have hkl : (k : Int) < (n : Int) := by omega
      have hwk : IntKind.i64.wrap ((k : Int) + 1) = (k : Int) + 1 := IntWalk.i64_in _ (by omega)
      have HNX := Lib.hid (show nxL nn xx (k + 1) = nxR (tt, bb) (xx k) (nn k) from by rw [HT.out]; rfl)
      obtain ⟨m, hm⟩ : ∃ m, m = nn k := ⟨_, rfl⟩
      obtain ⟨x, hx⟩ : ∃ x, x = xx k := ⟨_, rfl⟩
      rw [← hm] at hs0 hf1 hml HNX
      rw [← hx] at hf1 HNX
      have HFI := Lib.hid hf1
      have HS0 := Lib.hid hs0
      have HT0 := Lib.hid HBX.out
      have HBO := Lib.hid HB.out
      clear hm hx e1 hf1 hc1 hs0 HBX HB HT
      obtain ⟨wo, rfl⟩ : ∃ wo, wo = wr := ⟨_, rfl⟩
      go_wp2_with fail
      go_loopw [5] (fun jv wr => ∃ (j : Nat) (b t : Int), j ≤ m ∧ jv = .int .i64 (j : Int) ∧ wr.heap[w2.heap.size]? = some (.cells #[.int .i64 b, .int .i64 t] 49 (0, 0)) ∧ Hid ((t, b) = nxR (tt, bb) x j) ∧ Hid (Below w2.heap.size w2 wr)) (fun jv _ => m - (intOf jv).toNat)
      case atStart => exact ⟨0, bb, tt, by omega, rfl, HT0.out, rfl, HBO.out⟩
      case round =>
        obtain ⟨j, b, t, hj, rfl, hby, HTJ, HBJ⟩ := hrel
        have HBR := Lib.hid (HB2.out.trans (HBJ.out.mono hwl))
        have X3 := (HBJ.out.block w.heap.size hs2).trans X2.out
        obtain ⟨-, b1, -, -⟩ := cellsB2 X3
        have hgt : w2.heap.size < wr.heap.size := (Array.getElem?_eq_some_iff.1 hby).1
        have hbl : w2.heap.size ≠ wr.heap.size := by omega
        obtain ⟨y0, y1, y2, y3⟩ := cellsB2 hby
        have a0 := (HBR.out.cell (p := ⟨g, o + k, none⟩) hg).trans HS0.out
        have HBY := Lib.hid hby
        clear X3 hby
        by_cases hjm : j < m
        · obtain ⟨rfl, -, hg1⟩ := HFI.out.1 (by omega)
          obtain ⟨a1, a2⟩ := HFI.out.at2 HBR.out (Nat.le_refl _) j (by omega)
          have hj0 : (0 : Int) ≤ (j : Int) := by omega
          have hjl : (j : Int) < (m : Int) := by omega
          have hwj : IntKind.i64.wrap ((j : Int) + 1) = (j : Int) + 1 := IntWalk.i64_in _ (by omega)
          have HST2 := Lib.hid (show nxR (tt, bb) x (j + 1) = nxS (t, b) (x (j * 2)) (x (j * 2 + 1)) from by rw [HTJ.out]; rfl)
          obtain ⟨v0, hv0⟩ : ∃ y, y = x (j * 2) := ⟨_, rfl⟩
          obtain ⟨v1, hv1⟩ : ∃ y, y = x (j * 2 + 1) := ⟨_, rfl⟩
          rw [← hv0] at a1 HST2
          rw [← hv1] at a2 HST2
          clear hv0 hv1 HTJ
          have HYES := Lib.hid (fun (hq : v1 < t ∨ (v1 = t ∧ v0 < b)) => show (v1, v0) = nxR (tt, bb) x (j + 1) from by rw [HST2.out]; exact (if_pos hq).symm)
          have HNOT := Lib.hid (fun (hq : ¬ (v1 < t ∨ (v1 = t ∧ v0 < b))) => show (t, b) = nxR (tt, bb) x (j + 1) from by rw [HST2.out]; exact (if_neg hq).symm)
          clear HST2
          by_cases h1 : v1 < t
          · have hd1 : decide (v1 < t) = true := decide_eq_true h1
            have HX := Lib.hid (HYES.out (.inl h1))
            clear HYES HNOT
            go_wp2_with fail
            go_roundw
            case rel =>
              refine ⟨j + 1, v0, v1, by omega, by congr 1, ?_, HX.out, ?_⟩
              · exact (Below.heap_alloc _ _ _ (by simp [World.setCell]; omega)).trans (blk_set (blk_set HBY.out _) _)
              · exact (Below.setCell (Below.setCell HBJ.out (Nat.le_refl _) _) (Nat.le_refl _) _).alloc (by simp [World.setCell]; omega) _
            case measure => simp only [intOf]; omega
          · have hd1 : decide (v1 < t) = false := decide_eq_false h1
            by_cases h2 : v1 = t
            · subst h2
              have hee : (v1 == v1) = true := by simp
              by_cases h3 : v0 < b
              · have hd3 : decide (v0 < b) = true := decide_eq_true h3
                have HX := Lib.hid (HYES.out (.inr ⟨rfl, h3⟩))
                clear HYES HNOT
                go_wp2_with fail
                go_roundw
                case rel =>
                  refine ⟨j + 1, v0, v1, by omega, by congr 1, ?_, HX.out, ?_⟩
                  · exact (Below.heap_alloc _ _ _ (by simp [World.setCell]; omega)).trans (blk_set (blk_set HBY.out _) _)
                  · exact (Below.setCell (Below.setCell HBJ.out (Nat.le_refl _) _) (Nat.le_refl _) _).alloc (by simp [World.setCell]; omega) _
                case measure => simp only [intOf]; omega
              · have hd3 : decide (v0 < b) = false := decide_eq_false h3
                have HX := Lib.hid (HNOT.out (by rintro (h | ⟨-, h⟩); exact h1 h; exact h3 h))
                clear HYES HNOT
                go_wp2_with fail
                go_roundw
                case rel =>
                  refine ⟨j + 1, b, v1, by omega, by congr 1, (Below.heap_alloc wr _ w2.heap.size hgt).trans HBY.out, HX.out, HBJ.out.alloc (by first | omega | (simp; omega)) _⟩
                case measure => simp only [intOf]; omega
            · have hee : (v1 == t) = false := by simpa using h2
              have HX := Lib.hid (HNOT.out (by rintro (h | ⟨h, -⟩); exact h1 h; exact h2 h))
              clear HYES HNOT
              go_wp2_with fail
              go_roundw
              case rel =>
                refine ⟨j + 1, b, t, by omega, by congr 1, (Below.heap_alloc wr _ w2.heap.size hgt).trans HBY.out, HX.out, HBJ.out.alloc (by first | omega | (simp; omega)) _⟩
              case measure => simp only [intOf]; omega
        · obtain rfl : j = m := by omega
          have HE := Lib.hid (HTJ.out.trans HNX.out.symm)
          clear HTJ HNX
          go_wp2_with fail
          go_roundw
          case rel => exact ⟨k + 1, b, t, by omega, by congr 1, HBY.out, HE.out, HBJ.out⟩
          case measure => simp only [intOf]; omega
    · obtain rfl : k = n := by omega
      obtain ⟨y0, y1, -, -⟩ := cellsB2 HBX.out
      obtain rfl : R = bb := by rw [HR0.out, ← HT.out]
      go_wp2_with fail
      go_ret
      exact ⟨rfl, HBW.out⟩

end Go.Proofs.Ytokhkcebdbopcaa
