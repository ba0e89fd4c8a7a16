/- What the model's BoxesOk returns. -/
import Derived.Test.YtnkhjlpeeljelaaBoxesOkI
import Derived.Test.YtnkhjlpeeljelaaPiecesOkS
import Derived.Test.YtnkhjlpeeljelaaHas
namespace Go.Proofs.Ytnkhjlpeeljelaa
open Go.RowKit
set_option linter.unusedVariables false

set_option maxRecDepth 100000 in
set_option maxHeartbeats 16000000 in
theorem sBoxesOk_any (W C : Int) (n : Nat) (hn : n ≤ maxLen) (z : Nat → Int) (p : Option Addr) (c g o : Nat) (pb : Option Addr) (m cb : Nat) (a : Nat → Int) (nn : Nat → Nat) (xx : Nat → Nat → Int) (w : World) (h : FlatAt w 0 w.heap.size p g o (n * 3) (fun j => .int .i64 (z j)))
    (hb : NRs w (.slice pb m cb) m 2 a nn xx) (hm : m + totN nn m ≤ 1048576) :
    Calls Try.prog 39 #[.agg #[.int .i64 W, .int .i64 C], .slice p n c, .slice pb m cb] w fun e w' => e = .returned (.bool (decide (bxsOk W C n z m a nn xx))) ∧ Below w.heap.size w w' := by
  obtain ⟨i0, hi, hz0, hz1, hz2⟩ := info_parts infoIntX
  have ck := cellsBox
  have cp := cellsPiece
  have hp := Lib.hid (fun V (hV : Below w.heap.size w V) => sPiecesOk_any n hn z p c g o V ((h.below hV (Nat.le_refl _)).wide (Nat.le_refl _) hV.size))
  have hl := Lib.hid (fun V (hV : Below w.heap.size w V) => sLimitsOk_any W C V)
  have HL0 := Lib.hid h
  clear h
  obtain ⟨w1, hw1⟩ : ∃ x, x = w.alloc (.cells #[.int .i64 W, .int .i64 C] 25) := ⟨_, rfl⟩
  have X1 := Lib.hid (show w1.heap[w.heap.size]? = some (.cells #[.int .i64 W, .int .i64 C] 25 (0, 0)) from by rw [hw1]; exact heap_new _ _ _ rfl)
  have B1 := Lib.hid (show Below w.heap.size w w1 from by rw [hw1]; exact (Below.refl _ _).alloc (Nat.le_refl _) _)
  have S1 : w1.heap.size = w.heap.size + 1 := by rw [hw1]; simp
  have HW1 := Lib.hid hw1
  clear hw1
  by_cases h1 : liB W C = true
  rotate_left
  · have HN := Lib.hid (decide_eq_false (p := bxsOk W C n z m a nn xx) (fun h => h1 h.1.1))
    have h1 : liB W C = false := by simpa using h1
    rw [h1] at hl
    clear hp h1 hb
    go_enter Try.func39, Try.ntmps39
    go_wp2_with (go_at_call 15; rw [← HW1.out]; refine (hl.out _ B1.out).mono ?_; rintro e w2 ⟨rfl, hb⟩)
    go_ret
    exact ⟨by rw [HN.out]; first | done | rfl, B1.out.trans (hb.mono B1.out.size)⟩
  rw [h1] at hl
  by_cases h2 : pcsOk n z
  rotate_left
  · have HN := Lib.hid (decide_eq_false (p := bxsOk W C n z m a nn xx) (fun h => h2 h.1.2))
    rw [decide_eq_false h2] at hp
    clear h1 h2 hb
    go_enter Try.func39, Try.ntmps39
    go_wp2_with (first
      | (go_at_call 15; rw [← HW1.out]; refine (hl.out _ B1.out).mono ?_; rintro e w2 ⟨rfl, hb⟩; have hb2 := B1.out.trans (hb.mono B1.out.size))
      | (go_at_call 19; refine (hp.out _ hb2).mono ?_; rintro e w3 ⟨rfl, hb3⟩))
    go_ret
    exact ⟨by rw [HN.out]; first | done | rfl, hb2.trans (hb3.mono hb2.size)⟩
  rw [decide_eq_true h2] at hp
  have hn40 := h2.1
  have hWC := liB_range h1
  have HPC := Lib.hid (And.intro h1 h2)
  clear h1 h2
  obtain ⟨pb', cb', gb, ob, s, e1, hcb, hf, hr⟩ := hb
  injection e1 with e1 e2 e3
  subst e1 e3
  have HG := Lib.hid hf
  have HR := Lib.hid hr
  have hlb := Lib.hid (fun k (hk : k ≤ m) => show totN nn k ≤ 1048576 from by have := totN_le (nn := nn) hk; omega)
  clear hf hr e2
  go_enter Try.func39, Try.ntmps39
  go_wp2_with (first
      | (go_at_call 15; rw [← HW1.out]; refine (hl.out _ B1.out).mono ?_; rintro e w2 ⟨rfl, hb⟩; have hb2 := B1.out.trans (hb.mono B1.out.size))
      | (go_at_call 19; refine (hp.out _ hb2).mono ?_; rintro e w3 ⟨rfl, hb3⟩))
  have HB3 := Lib.hid (show Below w1.heap.size w1 w3 from hb.trans (hb3.mono hb.size))
  have S3 := HB3.out.size
  clear hb hb2 hb3 hp hl
  go_loopw [7, 8] (fun cv iv wr => ∃ (k : Nat), k ≤ m ∧ iv = .int .i64 (k : Int) ∧ cv = .int .i64 ((totN nn k : Nat) : Int) ∧ Hid (∀ j, j < k → bxOk W C n z (a (j * 3)) (a (j * 3 + 1)) (nn j) (xx j)) ∧ Hid (Below w1.heap.size w1 wr)) (fun _ iv _ => m - (intOf iv).toNat)
  case atStart => exact ⟨0, by omega, rfl, rfl, fun j hj => absurd hj (by omega), HB3.out⟩
  case round =>
    obtain ⟨k, hk, rfl, rfl, HP, HB⟩ := hrel
    have HBW := Lib.hid (B1.out.trans (HB.out.mono B1.out.size))
    have hszw := HB.out.size
    by_cases hkm : k < m
    · obtain ⟨rfl, -, hg⟩ := HG.out.1 (by omega)
      obtain ⟨hrd, sa, sc, se⟩ := HR.out k hkm
      rw [se] at hrd
      obtain ⟨p5, c5, g5, o5, e5, hc5, hf5⟩ := hrd
      injection e5 with e51 _ e53
      subst e53
      have hbox := Lib.hid (fun V (hV : Below w.heap.size w V) => show V.cell? ⟨gb, ob + k * 3, none⟩ = some (.int .i64 (a (k * 3))) ∧ V.cell? ⟨gb, ob + k * 3 + 1, none⟩ = some (.int .i64 (a (k * 3 + 1))) ∧ V.cell? ⟨gb, ob + k * 3 + 2, none⟩ = some (.slice (some sa) (nn k) sc) from by rw [← se]; exact atBox HG.out hkm hV (Nat.le_refl _))
      have hlim := Lib.hid (fun V (hV : Below w1.heap.size w1 V) => cellsL2 ((hV.block w.heap.size (by omega)).trans X1.out))
      have hF5 := Lib.hid (show FlatAt w 0 w.heap.size (some sa) g5 o5 (nn k) (fun j => .int .i64 (xx k j)) from by rw [← e51] at hf5; exact hf5)
      have hq5 : nn k ≤ 1048576 := by have := totN_one (nn := nn) hkm; omega
      have htot : totN nn k + nn k ≤ 1048576 := hlb.out (k + 1) (by omega)
      have HNO := Lib.hid (fun (hh : ¬ bxOk W C n z (a (k * 3)) (a (k * 3 + 1)) (nn k) (xx k)) => decide_eq_false (p := bxsOk W C n z m a nn xx) (fun h => hh (h.2.1 k hkm)))
      have HYE := Lib.hid (fun (hh : bxOk W C n z (a (k * 3)) (a (k * 3 + 1)) (nn k) (xx k)) (j : Nat) (hj : j < k + 1) => show bxOk W C n z (a (j * 3)) (a (j * 3 + 1)) (nn j) (xx j) from by
        by_cases e : j = k
        · subst e; exact hh
        · exact HP.out j (by omega))
      have HTN := Lib.hid (show totN nn (k + 1) = totN nn k + nn k from rfl)
      obtain ⟨q, hq⟩ : ∃ q, q = nn k := ⟨_, rfl⟩
      obtain ⟨y, hy⟩ : ∃ y, y = xx k := ⟨_, rfl⟩
      obtain ⟨v0, hv0⟩ : ∃ v, v = a (k * 3) := ⟨_, rfl⟩
      obtain ⟨v1, hv1⟩ : ∃ v, v = a (k * 3 + 1) := ⟨_, rfl⟩
      obtain ⟨tt, htt⟩ : ∃ t, t = totN nn k := ⟨_, rfl⟩
      rw [← hq] at hbox hF5 hq5 htot HNO HYE HTN
      rw [← hy] at hF5 HNO HYE
      rw [← hv0, ← hv1] at hbox HNO HYE
      rw [← htt] at htot HTN ⊢
      have hk0 : (0 : Int) ≤ (k : Int) := by omega
      have hkl : (k : Int) < (m : Int) := by omega
      have hwk : IntKind.i64.wrap ((k : Int) + 1) = (k : Int) + 1 := IntWalk.i64_in _ (by omega)
      clear hq hy hv0 hv1 htt se e51 hf5 HP
      obtain ⟨u0, u1, u2⟩ := hbox.out _ HBW.out
      obtain ⟨b0, b1⟩ := hlim.out _ HB.out
      by_cases hq1 : q = 0
      · subst hq1
        have HN := Lib.hid (HNO.out (fun h => by have := h.1.1; omega))
        clear HNO HYE
        go_wp2_with fail
        go_quiet (fail)
        go_wp2_with fail
        go_ret
        exact ⟨by rw [HN.out]; first | done | rfl, below_drewN' HBW.out _⟩
      have hqz : ((q : Int) == 0) = false := by rw [beq_eq_false_iff_ne]; omega
      by_cases hqC : C < (q : Int)
      · have HN := Lib.hid (HNO.out (fun h => by have := h.1.2; omega))
        have hd : decide (C < (q : Int)) = true := decide_eq_true hqC
        clear HNO HYE hqC
        go_wp2_with fail
        go_quiet (fail)
        go_wp2_with fail
        go_ret
        exact ⟨by rw [HN.out]; first | done | rfl, below_drewN' HBW.out _⟩
      have hd : decide (C < (q : Int)) = false := decide_eq_false hqC
      by_cases hqW : W < v1
      · have HN := Lib.hid (HNO.out (fun h => by have := h.2.2; omega))
        have hd2 : decide (W < v1) = true := decide_eq_true hqW
        clear HNO HYE hqC hqW
        go_wp2_with fail
        go_quiet (fail)
        go_wp2_with fail
        go_ret
        exact ⟨by rw [HN.out]; first | done | rfl, below_drewN' HBW.out _⟩
      have hd2 : decide (W < v1) = false := decide_eq_false hqW
      have HQ := Lib.hid (show (1 : Int) ≤ q ∧ (q : Int) ≤ C ∧ v1 ≤ W from ⟨by omega, by omega, by omega⟩)
      clear hqW hqC hq1
      obtain ⟨wo, rfl⟩ : ∃ wo, wo = wr := ⟨_, rfl⟩
      go_wp2_with fail
      go_quiet (fail)
      go_wp2_with fail
      go_loopw [7, 9, 10] (fun cv sv jv wr => ∃ (j : Nat) (t : Int), j ≤ q ∧ jv = .int .i64 (j : Int) ∧ sv = .int .i64 t ∧ cv = .int .i64 ((tt + j : Nat) : Int) ∧ Hid (bxW n z v0 y j = some t) ∧ Hid (Below w1.heap.size w1 wr)) (fun _ _ jv _ => q - (intOf jv).toNat)
      case atStart => exact ⟨0, 0, by omega, rfl, rfl, rfl, rfl, below_drewN' HB.out _⟩
      case round =>
        obtain ⟨j, t, hj, rfl, rfl, rfl, HS, HBJ⟩ := hrel
        have HBJW := Lib.hid (B1.out.trans (HBJ.out.mono B1.out.size))
        obtain ⟨i0', i1', i2'⟩ := hbox.out _ HBJW.out
        have htr := bxW_in HPC.out.2 j HS.out
        by_cases hjq : j < q
        · obtain ⟨e6, -, hg5⟩ := hF5.out.1 (by omega)
          injection e6 with e6
          subst e6
          have a0 := (HBJW.out.cell (p := ⟨g5, o5 + j, none⟩) hg5).trans (hF5.out.int j hjq)
          have hj0 : (0 : Int) ≤ (j : Int) := by omega
          have hjl : (j : Int) < (q : Int) := by omega
          have hwj : IntKind.i64.wrap ((j : Int) + 1) = (j : Int) + 1 := IntWalk.i64_in _ (by omega)
          obtain ⟨cc, hcc⟩ : ∃ cc, cc = tt + j := ⟨_, rfl⟩
          have HCC := Lib.hid hcc
          rw [← hcc]
          have hcb5 : cc ≤ 1048576 := by omega
          clear hcc
          have hwc : IntKind.i64.wrap ((cc : Int) + 1) = (cc : Int) + 1 := IntWalk.i64_in _ (by omega)
          have HST := Lib.hid (fun (hh : bxW n z v0 y (j + 1) = none) => HNO.out (fun h => by
            have := bxW_stop hh (show j + 1 ≤ q by omega)
            have h2 := h.2.1
            rw [this] at h2
            cases h2))
          have HNX := Lib.hid (show bxW n z v0 y (j + 1) = (match pcF z (y j) n with | none => none | some k => if z (k * 3 + 2) = v0 then some (t + z (k * 3 + 1)) else none) from by
            show (match bxW n z v0 y j with | none => none | some s => _) = _
            rw [HS.out]
            rfl)
          have hpc := pcF_iff z (y j) n
          rcases hpF : pcF z (y j) n with _ | i
          · have HN := Lib.hid (HST.out (HNX.out.trans (by rw [hpF])))
            have hcall := Lib.hid (sPiece_any n hn z p c g o (y j) 0 0 0 (.inr ⟨hpc.2 hpF, rfl, rfl, rfl⟩) wr ((HL0.out.below HBJW.out (Nat.le_refl _)).wide (Nat.le_refl _) HBJW.out.size))
            clear HST HNX hpc hpF
            go_wp2_with (go_at_call 65; refine hcall.out.mono ?_; rintro e w4 ⟨rfl, hb4⟩; have b4 : Below w1.heap.size w1 w4 := HBJ.out.trans (hb4.mono HBJ.out.size); have b5 : Below w1.heap.size w1 (w4.alloc (.cells #[.int .i64 0, .int .i64 0, .int .i64 0] 62)) := b4.alloc b4.size _; have b5w := B1.out.trans (b5.mono B1.out.size); obtain ⟨f0, f1, f2⟩ := hbox.out _ b5w; obtain ⟨r0, r1, r2, -, -, -⟩ := cells3P (show (w4.alloc (.cells #[.int .i64 0, .int .i64 0, .int .i64 0] 62)).heap[w4.heap.size]? = some (.cells #[.int .i64 0, .int .i64 0, .int .i64 0] 62) from heap_new _ _ _ rfl))
            go_quiet (fail)
            go_wp2_with fail
            go_ret
            exact ⟨by rw [HN.out]; first | done | rfl, below_drewN' b5w _⟩
          have hPA := hpc.1 i hpF
          have hw60 : 1 ≤ z (i * 3 + 1) ∧ z (i * 3 + 1) ≤ 60 := (HPC.out.2.2.1 i hPA.1).1
          have hbag : 1 ≤ y j := by rw [← hPA.2.1]; exact HPC.out.2.2.2.1 i hPA.1
          have HNX2 := Lib.hid (show bxW n z v0 y (j + 1) = if z (i * 3 + 2) = v0 then some (t + z (i * 3 + 1)) else none from HNX.out.trans (by rw [hpF]))
          have hcall := Lib.hid (sPiece_any n hn z p c g o (y j) (y j) (z (i * 3 + 1)) (z (i * 3 + 2)) (.inl ⟨i, hPA, rfl, rfl, rfl⟩) wr ((HL0.out.below HBJW.out (Nat.le_refl _)).wide (Nat.le_refl _) HBJW.out.size))
          clear hpc hpF HNX hPA
          obtain ⟨y1, hy1⟩ : ∃ x, x = z (i * 3 + 1) := ⟨_, rfl⟩
          obtain ⟨y2, hy2⟩ : ∃ x, x = z (i * 3 + 2) := ⟨_, rfl⟩
          obtain ⟨y0, hy0⟩ : ∃ x, x = y j := ⟨_, rfl⟩
          rw [← hy0] at a0 hcall hbag
          rw [← hy1] at hcall HNX2 hw60
          rw [← hy2] at hcall HNX2
          clear hy0 hy1 hy2
          have hy0z : (y0 == 0) = false := by rw [beq_eq_false_iff_ne]; omega
          by_cases he : y2 = v0
          · have hbq : (y2 != v0) = false := by simpa using he
            have HS2 := Lib.hid (HNX2.out.trans (if_pos he))
            have hws : IntKind.i64.wrap (t + y1) = t + y1 := IntWalk.i64_in _ (by omega)
            clear HNX2 HST he
            go_wp2_with (go_at_call 65; refine hcall.out.mono ?_; rintro e w4 ⟨rfl, hb4⟩; have b4 : Below w1.heap.size w1 w4 := HBJ.out.trans (hb4.mono HBJ.out.size); have b5 : Below w1.heap.size w1 (w4.alloc (.cells #[.int .i64 y0, .int .i64 y1, .int .i64 y2] 62)) := b4.alloc b4.size _; have b5w := B1.out.trans (b5.mono B1.out.size); obtain ⟨f0, f1, f2⟩ := hbox.out _ b5w; obtain ⟨r0, r1, r2, -, -, -⟩ := cells3P (show (w4.alloc (.cells #[.int .i64 y0, .int .i64 y1, .int .i64 y2] 62)).heap[w4.heap.size]? = some (.cells #[.int .i64 y0, .int .i64 y1, .int .i64 y2] 62) from heap_new _ _ _ rfl))
            go_quiet (fail)
            go_wp2_with fail
            go_roundw
            case rel => exact ⟨j + 1, t + y1, by omega, by congr 1, rfl, by congr 1; have := HCC.out; omega, HS2.out, below_drewN' b5 _⟩
            case measure => simp only [intOf]; omega
          · have hbq : (y2 != v0) = true := by simpa using he
            have HN := Lib.hid (HST.out (HNX2.out.trans (if_neg he)))
            clear HNX2 HST he
            go_wp2_with (go_at_call 65; refine hcall.out.mono ?_; rintro e w4 ⟨rfl, hb4⟩; have b4 : Below w1.heap.size w1 w4 := HBJ.out.trans (hb4.mono HBJ.out.size); have b5 : Below w1.heap.size w1 (w4.alloc (.cells #[.int .i64 y0, .int .i64 y1, .int .i64 y2] 62)) := b4.alloc b4.size _; have b5w := B1.out.trans (b5.mono B1.out.size); obtain ⟨f0, f1, f2⟩ := hbox.out _ b5w; obtain ⟨r0, r1, r2, -, -, -⟩ := cells3P (show (w4.alloc (.cells #[.int .i64 y0, .int .i64 y1, .int .i64 y2] 62)).heap[w4.heap.size]? = some (.cells #[.int .i64 y0, .int .i64 y1, .int .i64 y2] 62) from heap_new _ _ _ rfl))
            go_quiet (fail)
            go_wp2_with fail
            go_ret
            exact ⟨by rw [HN.out]; first | done | rfl, below_drewN' b5w _⟩
        · obtain rfl : j = q := by omega
          have HE := Lib.hid (show bxOk W C n z v0 v1 j y ↔ t = v1 from by
            unfold bxOk
            rw [HS.out]
            exact ⟨fun h => by have := h.2.1; injection this, fun h => ⟨⟨HQ.out.1, HQ.out.2.1⟩, by rw [h], HQ.out.2.2⟩⟩)
          by_cases e1 : t = v1
          · have HP2 := Lib.hid (HYE.out (HE.out.2 e1))
            have hbq : (t != v1) = false := by simpa using e1
            clear HE HNO HYE e1
            go_wp2_with fail
            go_roundw
            case rel => exact ⟨k + 1, by omega, by congr 1, by rw [HTN.out], HP2.out, HBJ.out⟩
            case measure => simp only [intOf]; omega
          · have hbq : (t != v1) = true := by simpa using e1
            have HN := Lib.hid (HNO.out (fun h => e1 (HE.out.1 h)))
            clear HE HNO HYE e1
            go_wp2_with fail
            go_ret
            exact ⟨by rw [HN.out]; first | done | rfl, HBJW.out⟩
    · obtain rfl : k = m := by omega
      have hml := hlb.out k (Nat.le_refl _)
      have HEQ := Lib.hid (show bxsOk W C n z k a nn xx ↔ totN nn k = n ∧ (bagN nn xx k).Nodup from by
        unfold bxsOk
        rw [bagN_len]
        exact ⟨fun h => h.2.2, fun h => ⟨HPC.out, HP.out, h⟩⟩)
      obtain ⟨T, hT⟩ : ∃ T, T = totN nn k := ⟨_, rfl⟩
      rw [← hT] at hml HEQ ⊢
      clear hT HP
      obtain ⟨wo, rfl⟩ : ∃ wo, wo = wr := ⟨_, rfl⟩
      go_wp2_with fail
      go_loopw [12, 13] (fun v iv wr => ∃ (i : Nat) (pq : Option Addr) (cq : Nat) (l : List Int), i ≤ k ∧ iv = .int .i64 (i : Int) ∧ v = .slice pq l.length cq ∧ wr.ownsRow w1.heap.size 3 1 (.slice pq l.length cq) l.length (l.map (.int .i64)) ∧ Hid (l = bagN nn xx i) ∧ Hid l.Nodup ∧ Hid (Below w1.heap.size w1 wr)) (fun _ iv _ => k - (intOf iv).toNat)
      case atStart => exact ⟨0, some ⟨wo.heap.size, 0, none⟩, 0, [], by omega, rfl, rfl, ⟨rfl, .inr ⟨wo.heap.size, 0, #[], rfl, hszw, heap_new _ _ _ rfl, Nat.le_refl _, by decide, by simp, by simp⟩⟩, rfl, List.nodup_nil, HB.out.alloc hszw _⟩
      case round =>
        obtain ⟨i, pq, cq, l, hik, rfl, rfl, hown, HL, HND, HBI⟩ := hrel
        have HBIW := Lib.hid (B1.out.trans (HBI.out.mono B1.out.size))
        have hszi := HBI.out.size
        by_cases hikk : i < k
        · obtain ⟨rfl, -, hg⟩ := HG.out.1 (by omega)
          obtain ⟨hrd, sa, sc, se⟩ := HR.out i hikk
          rw [se] at hrd
          obtain ⟨p5, c5, g5, o5, e5, hc5, hf5⟩ := hrd
          injection e5 with e51 _ e53
          subst e53
          have hbox := Lib.hid (fun V (hV : Below w.heap.size w V) => show V.cell? ⟨gb, ob + i * 3, none⟩ = some (.int .i64 (a (i * 3))) ∧ V.cell? ⟨gb, ob + i * 3 + 1, none⟩ = some (.int .i64 (a (i * 3 + 1))) ∧ V.cell? ⟨gb, ob + i * 3 + 2, none⟩ = some (.slice (some sa) (nn i) sc) from by rw [← se]; exact atBox HG.out hikk hV (Nat.le_refl _))
          have hF5 := Lib.hid (show FlatAt w 0 w.heap.size (some sa) g5 o5 (nn i) (fun j => .int .i64 (xx i j)) from by rw [← e51] at hf5; exact hf5)
          have hq5 : totN nn i + nn i ≤ 1048576 := hlb.out (i + 1) (by omega)
          have hll : l.length = totN nn i := by rw [HL.out, bagN_len]
          have HNP := Lib.hid (fun (j : Nat) (hj : j ≤ nn i) (hh : ¬ (l ++ brow (xx i) j).Nodup) => decide_eq_false (p := bxsOk W C n z k a nn xx) (fun h => hh (by
            rw [HL.out]
            exact nodup_pre (bags_pre hikk hj) (HEQ.out.1 h).2)))
          have HLE := Lib.hid (show bagN nn xx (i + 1) = l ++ brow (xx i) (nn i) from by rw [HL.out]; rfl)
          have hl5 : l.length + nn i ≤ 1048576 := by omega
          obtain ⟨q, hq⟩ : ∃ q, q = nn i := ⟨_, rfl⟩
          obtain ⟨y, hy⟩ : ∃ y, y = xx i := ⟨_, rfl⟩
          rw [← hq] at hbox hF5 hl5 HNP HLE
          rw [← hy] at hF5 HNP HLE
          have hi0 : (0 : Int) ≤ (i : Int) := by omega
          have hil : (i : Int) < (k : Int) := by omega
          have hwi : IntKind.i64.wrap ((i : Int) + 1) = (i : Int) + 1 := IntWalk.i64_in _ (by omega)
          clear hq hy se e51 hf5 HL hll hq5
          obtain ⟨wp, rfl⟩ : ∃ wp, wp = wr := ⟨_, rfl⟩
          go_wp2_with fail
          go_loopw [12, 14] (fun v jv wr => ∃ (j : Nat) (pq : Option Addr) (cq : Nat) (l2 : List Int), j ≤ q ∧ jv = .int .i64 (j : Int) ∧ v = .slice pq l2.length cq ∧ wr.ownsRow w1.heap.size 3 1 (.slice pq l2.length cq) l2.length (l2.map (.int .i64)) ∧ Hid (l2 = l ++ brow y j) ∧ Hid l2.Nodup ∧ Hid (Below w1.heap.size w1 wr)) (fun _ jv _ => q - (intOf jv).toNat)
          case atStart => exact ⟨0, pq, cq, l, by omega, rfl, rfl, hown, by show l = l ++ []; rw [List.append_nil], HND.out, HBI.out⟩
          case round =>
            obtain ⟨j, pj, cj, l2, hj, rfl, rfl, hoj, HL2, HN2, HBJ⟩ := hrel
            have HBJW := Lib.hid (B1.out.trans (HBJ.out.mono B1.out.size))
            have hszj := HBJ.out.size
            obtain ⟨i0', i1', i2'⟩ := hbox.out _ HBJW.out
            by_cases hjq : j < q
            · obtain ⟨e6, -, hg5⟩ := hF5.out.1 (by omega)
              injection e6 with e6
              subst e6
              have a0 := (HBJW.out.cell (p := ⟨g5, o5 + j, none⟩) hg5).trans (hF5.out.int j hjq)
              have hj0 : (0 : Int) ≤ (j : Int) := by omega
              have hjl : (j : Int) < (q : Int) := by omega
              have hwj : IntKind.i64.wrap ((j : Int) + 1) = (j : Int) + 1 := IntWalk.i64_in _ (by omega)
              have hll2 : l2.length ≤ 1048576 := by rw [HL2.out, List.length_append, brow_len]; omega
              have HXL := Lib.hid (show (l2 ++ [y j]).map (Value.int .i64) = l2.map (.int .i64) ++ [.int .i64 (y j)] by rw [List.map_append]; rfl)
              have HLX := Lib.hid (show l2 ++ [y j] = l ++ brow y (j + 1) from by rw [HL2.out, brow_succ, List.append_assoc])
              have HNO := Lib.hid (fun (hh : ¬ (l2 ++ [y j]).Nodup) => HNP.out (j + 1) (by omega) (by rw [← HLX.out]; exact hh))
              obtain ⟨gq, hfq⟩ := flat_of_list hoj
              have HFQ := Lib.hid hfq
              clear hfq HL2
              obtain ⟨y0, hy0⟩ : ∃ x, x = y j := ⟨_, rfl⟩
              rw [← hy0] at a0 HXL HLX HNO
              clear hy0
              have HH := Lib.hid (fun W (hW : Below wr.heap.size wr W) => sHas_any l2.length (by unfold maxLen; omega) (fun j => l2.getD j 0) pj cj gq 0 y0 W ((HFQ.out.below hW (Nat.le_refl _)).wide (Nat.zero_le _) hW.size))
              by_cases hmem : y0 ∈ l2
              · have HN := Lib.hid (HNO.out (fun h => (nodup_one.1 h).2 hmem))
                rw [decide_eq_true ((hasI_list l2 y0).2 hmem)] at HH
                clear hmem HNO
                go_wp2_with (go_at_call 66; refine (HH.out _ (Below.refl _ _)).mono ?_; rintro e w4 ⟨rfl, rfl⟩)
                go_ret
                exact ⟨by rw [HN.out]; first | done | rfl, HBJW.out⟩
              have HN3 := Lib.hid (nodup_one.2 ⟨HN2.out, hmem⟩)
              rw [decide_eq_false (fun h => hmem ((hasI_list l2 y0).1 h))] at HH
              clear hmem HNO HN2
              go_wp2_with (first
                | (go_at_call 66; refine (HH.out _ (Below.refl _ _)).mono ?_; rintro e w4 ⟨rfl, rfl⟩)
                | (at_builtin; refine wpList_append_own _ rfl _ _ 35 rfl w1.heap.size 3 i0 (.int .i64 0) 1 8 Try.underlying35 hi hz0 hz1 hz2 rfl (by decide) _ l2.length _ rfl (hoj.alloc _) ⟨wr.heap.size, 0, none⟩ 1 1 [.int .i64 y0] rfl rfl (by intro j u hj; match j, hj with | 0, hj => simp at hj; subst hj; simp [Addr.add]) (by intro u hu; simp at hu; rcases hu with rfl; rfl) (by unfold maxLen; omega) (by omega) (by simp; omega) ?_; intro v' w3 hown3 hgrow3 _))
              go_roundw
              case rel =>
                obtain ⟨g4, c4, rfl⟩ := ownsRow_succ hown3
                refine ⟨j + 1, some ⟨g4, 0, none⟩, c4, l2 ++ [y0], by omega, by congr 1, by rw [List.length_append]; rfl, by rw [HXL.out, List.length_append]; exact hown3, HLX.out, HN3.out, ?_⟩
                exact Below.grown (HBJ.out.alloc (by first | omega | (simp; omega)) _) hgrow3 (by first | omega | (simp; omega)) (fun j hj => (hoj.lt j hj).1)
              case measure => simp only [intOf]; omega
            · obtain rfl : j = q := by omega
              have HLL := Lib.hid (HL2.out.trans HLE.out.symm)
              clear HL2
              go_wp2_with fail
              go_roundw
              case rel => exact ⟨i + 1, pj, cj, l2, by omega, by congr 1, rfl, hoj, HLL.out, HN2.out, HBJ.out⟩
              case measure => simp only [intOf]; omega
        · obtain rfl : i = k := by omega
          have HND2 := Lib.hid (show (bagN nn xx i).Nodup from by rw [← HL.out]; exact HND.out)
          by_cases hTn : T = n
          · have hbq : ((T : Int) == (n : Int)) = true := by rw [beq_iff_eq]; omega
            have HN := Lib.hid (decide_eq_true (HEQ.out.2 ⟨hTn, HND2.out⟩))
            clear HEQ hTn
            go_wp2_with fail
            go_ret
            exact ⟨by rw [HN.out]; first | done | rfl, HBIW.out⟩
          · have hbq : ((T : Int) == (n : Int)) = false := by rw [beq_eq_false_iff_ne]; omega
            have HN := Lib.hid (decide_eq_false (fun h => hTn (HEQ.out.1 h).1))
            clear HEQ hTn
            go_wp2_with fail
            go_ret
            exact ⟨by rw [HN.out]; first | done | rfl, HBIW.out⟩

end Go.Proofs.Ytnkhjlpeeljelaa
