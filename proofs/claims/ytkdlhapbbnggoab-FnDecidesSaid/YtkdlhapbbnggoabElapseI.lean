/- What the program's Elapse returns. -/
import Derived.Test.YtkdlhapbbnggoabElapse0
namespace Go.Proofs.Ytkdlhapbbnggoab
open Go.RowKit
set_option linter.unusedVariables false

set_option maxRecDepth 100000 in
set_option maxHeartbeats 4000000 in
theorem iElapse_v (n : Nat) (z : Nat → Int) (v : Value) (L S V now : Int) (w : World) (h : Rd w v n n z) :
    Calls Try.prog 52 #[.agg #[v], .agg #[.int .i64 L, .int .i64 S, .int .i64 V], .int .i64 now] w fun e w' => e = .returned (.agg #[.int .i64 (eL n z L S V now), .int .i64 (eS n z L S V now), .int .i64 V]) ∧ Below w.heap.size w w' := by
  have hpo := Lib.hid (fun (t : Bool) (ht : poB n z = t) W (hW : Below w.heap.size w W) => iPolicyOk_v ht (h.later hW))
  have hE0 := ElB.start w v L S V
  rcases Bool.eq_false_or_eq_true (poB n z) with p1 | p1
  rotate_left
  · have hn := eLS_no (n := n) (z := z) (L := L) (S := S) (V := V) (now := now) (fun h => poB_not.1 p1 h.1)
    have HN := Lib.hid hn
    clear hn
    obtain ⟨r1, hr1⟩ : ∃ r, r = eL n z L S V now := ⟨_, rfl⟩
    obtain ⟨r2, hr2⟩ : ∃ r, r = eS n z L S V now := ⟨_, rfl⟩
    rw [← hr1, ← hr2]
    have HR1 : Hid (r1 = L) := hr1.trans HN.out.1
    have HR2 : Hid (r2 = S) := hr2.trans HN.out.2
    have HE0 := Lib.hid hE0
    clear hr1 hr2 HN hE0 h
    have P1 := Lib.hid p1
    clear p1
    go_enter Try.func52, Try.ntmps52
    go_wp2_with fail
    refine (hpo.out false P1.out _ HE0.out.2.2.2).mono ?_
    rintro e w1 ⟨rfl, hb1⟩
    have hE1 := HE0.out.later hb1
    have HE1 := Lib.hid hE1
    obtain ⟨a0, b0, b1, b2, d0, d1, d2, f0, f1, f2, g0, g1, g2⟩ := hE1.cells
    clear hE1 hb1
    go_wp2_with fail
    refine bodyPost_ret (v := .agg #[.int .i64 (L), .int .i64 (S), .int .i64 (V)]) (by obtain ⟨y0, y1, y2⟩ := cells_res (HE1.out.2.2.1) (.int .i64 (L)) (.int .i64 (S)) (.int .i64 (V)); simp [results, Try.results52, go_sem, y0, y1, y2]) rfl ⟨by rw [HR1.out, HR2.out], below_res HE1.out.2.2.2 _ (by omega) _ _ _⟩
  rcases Bool.eq_false_or_eq_true (scB L S V) with s1 | s1
  rotate_left
  · have hn := eLS_no (n := n) (z := z) (L := L) (S := S) (V := V) (now := now) (fun h => scB_not.1 s1 h.2.1)
    have HN := Lib.hid hn
    clear hn
    obtain ⟨r1, hr1⟩ : ∃ r, r = eL n z L S V now := ⟨_, rfl⟩
    obtain ⟨r2, hr2⟩ : ∃ r, r = eS n z L S V now := ⟨_, rfl⟩
    rw [← hr1, ← hr2]
    have HR1 : Hid (r1 = L) := hr1.trans HN.out.1
    have HR2 : Hid (r2 = S) := hr2.trans HN.out.2
    have HE0 := Lib.hid hE0
    clear hr1 hr2 HN hE0 h
    have P1 := Lib.hid p1
    have S1 := Lib.hid s1
    clear p1 s1
    go_enter Try.func52, Try.ntmps52
    go_wp2_with fail
    refine (hpo.out true P1.out _ HE0.out.2.2.2).mono ?_
    rintro e w1 ⟨rfl, hb1⟩
    have hE1 := HE0.out.later hb1
    have HE1 := Lib.hid hE1
    obtain ⟨a0, b0, b1, b2, d0, d1, d2, f0, f1, f2, g0, g1, g2⟩ := hE1.cells
    clear hE1 hb1
    go_wp2_with fail
    refine (iScreenOk_at S1.out _).mono ?_
    rintro e w2 ⟨rfl, hb2⟩
    have hE2 := HE1.out.later hb2
    have HE2 := Lib.hid hE2
    clear hb2
    clear a0 b0 b1 b2 d0 d1 d2 f0 f1 f2 g0 g1 g2
    obtain ⟨a0, b0, b1, b2, d0, d1, d2, f0, f1, f2, g0, g1, g2⟩ := hE2.cells
    clear hE2
    go_wp2_with fail
    refine bodyPost_ret (v := .agg #[.int .i64 (L), .int .i64 (S), .int .i64 (V)]) (by obtain ⟨y0, y1, y2⟩ := cells_res (HE2.out.2.2.1) (.int .i64 (L)) (.int .i64 (S)) (.int .i64 (V)); simp [results, Try.results52, go_sem, y0, y1, y2]) rfl ⟨by rw [HR1.out, HR2.out], below_res HE2.out.2.2.2 _ (by omega) _ _ _⟩
  rcases Bool.eq_false_or_eq_true (inB 0 100000 now) with n1 | n1
  rotate_left
  · have hn := eLS_no (n := n) (z := z) (L := L) (S := S) (V := V) (now := now) (fun h => inB_no.1 n1 h.2.2.1)
    have HN := Lib.hid hn
    clear hn
    obtain ⟨r1, hr1⟩ : ∃ r, r = eL n z L S V now := ⟨_, rfl⟩
    obtain ⟨r2, hr2⟩ : ∃ r, r = eS n z L S V now := ⟨_, rfl⟩
    rw [← hr1, ← hr2]
    have HR1 : Hid (r1 = L) := hr1.trans HN.out.1
    have HR2 : Hid (r2 = S) := hr2.trans HN.out.2
    have HE0 := Lib.hid hE0
    clear hr1 hr2 HN hE0 h
    have P1 := Lib.hid p1
    have S1 := Lib.hid s1
    have N1 := Lib.hid n1
    clear p1 s1 n1
    go_enter Try.func52, Try.ntmps52
    go_wp2_with fail
    refine (hpo.out true P1.out _ HE0.out.2.2.2).mono ?_
    rintro e w1 ⟨rfl, hb1⟩
    have hE1 := HE0.out.later hb1
    have HE1 := Lib.hid hE1
    obtain ⟨a0, b0, b1, b2, d0, d1, d2, f0, f1, f2, g0, g1, g2⟩ := hE1.cells
    clear hE1 hb1
    go_wp2_with fail
    refine (iScreenOk_at S1.out _).mono ?_
    rintro e w2 ⟨rfl, hb2⟩
    have hE2 := HE1.out.later hb2
    have HE2 := Lib.hid hE2
    clear hb2
    clear a0 b0 b1 b2 d0 d1 d2 f0 f1 f2 g0 g1 g2
    obtain ⟨a0, b0, b1, b2, d0, d1, d2, f0, f1, f2, g0, g1, g2⟩ := hE2.cells
    clear hE2
    go_wp2_with (go_at_call 73; refine (within_at N1.out _).mono ?_; rintro e w' ⟨rfl, rfl⟩)
    refine bodyPost_ret (v := .agg #[.int .i64 (L), .int .i64 (S), .int .i64 (V)]) (by obtain ⟨y0, y1, y2⟩ := cells_res (HE2.out.2.2.1) (.int .i64 (L)) (.int .i64 (S)) (.int .i64 (V)); simp [results, Try.results52, go_sem, y0, y1, y2]) rfl ⟨by rw [HR1.out, HR2.out], below_res HE2.out.2.2.2 _ (by omega) _ _ _⟩
  have hP := poB_iff.1 p1
  obtain rfl : n = 3 := hP.1
  have HP := Lib.hid hP.2
  have HPP := Lib.hid hP
  obtain ⟨p, c, g, o, rfl, hnc, hfl⟩ := h
  have HF := Lib.hid hfl
  obtain ⟨rfl, -, hg⟩ := hfl.1 (by omega)
  clear hP hfl
  have HSC := Lib.hid (scB_iff.1 s1)
  have HNW := Lib.hid (inB_iff.1 n1)
  obtain ⟨r1, hr1⟩ : ∃ r, r = eL 3 z L S V now := ⟨_, rfl⟩
  obtain ⟨r2, hr2⟩ : ∃ r, r = eS 3 z L S V now := ⟨_, rfl⟩
  rw [← hr1, ← hr2]
  have HR1 := Lib.hid hr1
  have HR2 := Lib.hid hr2
  have N1 := Lib.hid n1
  have S1 := Lib.hid s1
  have P1 := Lib.hid p1
  have HE0 := Lib.hid hE0
  clear hr1 hr2 n1 s1 p1 hE0
  go_enter Try.func52, Try.ntmps52
  go_wp2_with fail
  refine (hpo.out true P1.out _ HE0.out.2.2.2).mono ?_
  rintro e w1 ⟨rfl, hb1⟩
  have hE1 := HE0.out.later hb1
  have HE1 := Lib.hid hE1
  obtain ⟨a0, b0, b1, b2, d0, d1, d2, f0, f1, f2, g0, g1, g2⟩ := hE1.cells
  clear hE1 hb1
  go_wp2_with fail
  refine (iScreenOk_at S1.out _).mono ?_
  rintro e w2 ⟨rfl, hb2⟩
  have hE2 := HE1.out.later hb2
  have HE2 := Lib.hid hE2
  clear hb2
  clear a0 b0 b1 b2 d0 d1 d2 f0 f1 f2 g0 g1 g2
  obtain ⟨a0, b0, b1, b2, d0, d1, d2, f0, f1, f2, g0, g1, g2⟩ := hE2.cells
  clear hE2
  go_wp2_with (go_at_call 73; refine (within_at N1.out _).mono ?_; rintro e w' ⟨rfl, rfl⟩)
  clear a0 b0 b1 b2 d0 d1 d2 f0 f1 f2 g0 g1 g2
  go_loopg [] (4 - (L - 1).toNat) (fun gk wr => ∃ (l : Nat) (S' : Int), l + gk = 4 ∧ 0 ≤ S' ∧ S' ≤ 100000 ∧ l ≤ 3 ∧ ElB w wr (.slice (some ⟨g, o, none⟩) 3 c) ((l : Int) + 1) S' V 0 0 0 ∧ Hid (V = 0 → onW z now L S ((l : Int) + 1) S') ∧ Hid (V ≠ 0 → (l : Int) + 1 = L ∧ S' = S))
  case atStart =>
    have h1 := HSC.out.1
    have h2 := HSC.out.2.1
    refine ⟨(L - 1).toNat, S, by omega, h2.1, h2.2, by omega, ?_, ?_, ?_⟩
    · rw [show (((L - 1).toNat : Nat) : Int) + 1 = L by omega]; exact HE2.out
    · rw [show (((L - 1).toNat : Nat) : Int) + 1 = L by omega]; exact fun _ => onW_start h1.1
    · rw [show (((L - 1).toNat : Nat) : Int) + 1 = L by omega]; exact fun _ => ⟨rfl, rfl⟩
  case round =>
    obtain ⟨l, S', hgk, hS0, hS1, hl3, hE, HV, HN⟩ := hrel
    have HE := Lib.hid hE
    obtain ⟨a0, b0, b1, b2, d0, d1, d2, f0, f1, f2, g0, g1, g2⟩ := hE.cells
    clear hE
    by_cases hV : V = 0
    · subst hV
      by_cases h4 : l = 3
      · subst h4
        have HRR : Hid (r1 = 4 ∧ r2 = S') := by
          have := eLS_yes ⟨HPP.out, HSC.out, HNW.out, rfl⟩ (onW_full (HV.out rfl) (by omega))
          exact ⟨HR1.out.trans this.1, HR2.out.trans this.2⟩
        go_wp2_with fail
        go_quiet (fail)
        go_wp2_with fail
        refine bodyPost_ret (v := .agg #[.int .i64 4, .int .i64 (S'), .int .i64 (0)]) (by obtain ⟨y0, y1, y2⟩ := cells_res ((HE.out.drewN nq).2.2.1) (.int .i64 4) (.int .i64 (S')) (.int .i64 (0)); simp [results, Try.results52, go_sem, y0, y1, y2]) rfl ⟨by rw [HRR.out.1, HRR.out.2], below_res (below_drewN' HE.out.2.2.2 nq) _ (by omega) _ _ _⟩
      · have zc := ((HE.out.2.2.2.cell (p := ⟨g, o + l, none⟩) hg).trans (HF.out.int l (by omega)))
        have hw0 := IntWalk.i64_in (now - S') (by have := HNW.out; omega)
        have hw1 : IntKind.i64.wrap ((l : Int) + 1 - 1) = (l : Int) := by rw [show (l : Int) + 1 - 1 = l by omega]; exact IntWalk.i64_in _ (by omega)
        have hwt : wt z ((l : Int) + 1) = z l := by unfold wt; rw [show ((l : Int) + 1 - 1).toNat = l by omega]
        have HWT := Lib.hid hwt
        clear hwt
        have hl4 : decide ((l : Int) + 1 < 4) = true := decide_eq_true (by omega)
        have hl40 : (0 : Int) ≤ (l : Int) := by omega
        have hl43 : (l : Int) < 3 := by omega
        by_cases hov : z l < now - S'
        · have hovd : decide (z l < now - S') = true := decide_eq_true hov
          have HOV : Hid (ovr z now ((l : Int) + 1) S') := ⟨by omega, by rw [HWT.out]; exact hov⟩
          go_wp2_with fail
          go_quiet (fail)
          go_wp2_with fail
          generalize hwq : wr.drewN nq = wq
          have HEQ : Hid (ElB w wq (.slice (some ⟨g, o, none⟩) 3 c) ((l : Int) + 1) S' 0 0 0 0) := by rw [← hwq]; exact HE.out.drewN _
          clear a0 b0 b1 b2 d0 d1 d2 f0 f1 f2 g0 g1 g2 zc hwq
          have zc : wq.cell? ⟨g, o + l, none⟩ = some (.int .i64 (z l)) := (HEQ.out.2.2.2.cell (p := ⟨g, o + l, none⟩) hg).trans (HF.out.int l (by omega))
          obtain ⟨a0, b0, b1, b2, d0, d1, d2, f0, f1, f2, g0, g1, g2⟩ := HEQ.out.cells
          have hw2 : IntKind.i64.wrap (l : Int) = (l : Int) := IntWalk.i64_in _ (by omega)
          have hzl := HP.out l (by omega)
          have hw3 : IntKind.i64.wrap (S' + z l) = S' + z l := IntWalk.i64_in _ (by omega)
          go_still_tail 11, (by kernel_rfl)
          change wpList _ _ _ _ _ wq.drew
          have HEZ : Hid (ElB w wq.drew (.slice (some ⟨g, o, none⟩) 3 c) ((l : Int) + 1) S' 0 0 0 0) := HEQ.out.drewN 1
          generalize wq.drew = wz at HEZ ⊢
          clear a0 b0 b1 b2 d0 d1 d2 f0 f1 f2 g0 g1 g2 zc
          obtain ⟨a0, b0, b1, b2, d0, d1, d2, f0, f1, f2, g0, g1, g2⟩ := HEZ.out.cells
          go_wp2_with fail
          refine (goesOn_any ((l : Int) + 1) S' 0 (S' + z l) (by omega) _).mono ?_
          rintro e k1 ⟨rfl, hb1⟩
          have HE3 := Lib.hid (HEZ.out.later hb1)
          clear a0 b0 b1 b2 d0 d1 d2 f0 f1 f2 g0 g1 g2 hb1
          obtain ⟨a0, b0, b1, b2, d0, d1, d2, f0, f1, f2, g0, g1, g2⟩ := HE3.out.cells
          go_wp2_with fail
          go_roundg (gk - 1)
          case measure => omega
          case rel =>
            refine ⟨l + 1, S' + z l, by omega, by omega, by have := HNW.out; omega, by omega, ?_, fun _ => ?_, fun h => (h rfl).elim⟩
            · exact HE3.out.put ((l : Int) + 1 + 1) (S' + z l) 0
            · have := onW_go (HV.out (by first | exact rfl | trivial)) HOV.out
              rw [HWT.out] at this
              exact this
        · have hovd : decide (z l < now - S') = false := decide_eq_false hov
          have HRR : Hid (r1 = (l : Int) + 1 ∧ r2 = S') := by
            have := eLS_yes ⟨HPP.out, HSC.out, HNW.out, rfl⟩ (onW_stop (HV.out rfl) (fun h => hov (by have := h.2; rw [HWT.out] at this; exact this)))
            exact ⟨HR1.out.trans this.1, HR2.out.trans this.2⟩
          go_wp2_with fail
          go_quiet (fail)
          go_wp2_with fail
          refine bodyPost_ret (v := .agg #[.int .i64 ((l : Int) + 1), .int .i64 (S'), .int .i64 (0)]) (by obtain ⟨y0, y1, y2⟩ := cells_res ((HE.out.drewN nq).2.2.1) (.int .i64 ((l : Int) + 1)) (.int .i64 (S')) (.int .i64 (0)); simp [results, Try.results52, go_sem, y0, y1, y2]) rfl ⟨by rw [HRR.out.1, HRR.out.2], below_res (below_drewN' HE.out.2.2.2 nq) _ (by omega) _ _ _⟩
    · have hVd : (V == 0) = false := by simpa using hV
      have HRR : Hid (r1 = (l : Int) + 1 ∧ r2 = S') := by
        have h1 := eLS_no (n := 3) (z := z) (L := L) (S := S) (V := V) (now := now) (fun h => hV h.2.2.2)
        have h2 := HN.out hV
        exact ⟨by rw [HR1.out, h1.1, h2.1], by rw [HR2.out, h1.2, h2.2]⟩
      go_wp2_with fail
      go_quiet (fail)
      go_wp2_with fail
      refine bodyPost_ret (v := .agg #[.int .i64 ((l : Int) + 1), .int .i64 (S'), .int .i64 (V)]) (by obtain ⟨y0, y1, y2⟩ := cells_res ((HE.out.drewN nq).2.2.1) (.int .i64 ((l : Int) + 1)) (.int .i64 (S')) (.int .i64 (V)); simp [results, Try.results52, go_sem, y0, y1, y2]) rfl ⟨by rw [HRR.out.1, HRR.out.2], below_res (below_drewN' HE.out.2.2.2 nq) _ (by omega) _ _ _⟩

end Go.Proofs.Ytkdlhapbbnggoab
