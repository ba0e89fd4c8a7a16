/- What the model's Decide returns. -/
import Derived.Test.YtkdlhapbbnggoabElapseS
import Derived.Test.YtkdlhapbbnggoabDecideAt
namespace Go.Proofs.Ytkdlhapbbnggoab
open Go.RowKit
set_option linter.unusedVariables false

set_option maxRecDepth 100000 in
set_option maxHeartbeats 8000000 in
theorem sDecide_v (n : Nat) (z : Nat → Int) (v : Value) (L S V now D : Int) (w : World) (h : Rd w v n n z) :
    Calls Try.prog 60 #[.agg #[v], .agg #[.int .i64 L, .int .i64 S, .int .i64 V], .int .i64 now, .int .i64 D] w fun e w' => e = .returned (.tuple #[.agg #[.int .i64 (deL n z L S V now D), .int .i64 (deS n z L S V now D), .int .i64 (deV n z L S V now D)], .bool (deB n z L S V now D)]) ∧ Below w.heap.size w w' := by
  have hpo := Lib.hid (fun (t : Bool) (ht : poB n z = t) W (hW : Below w.heap.size w W) => sPolicyOk_v ht (h.later hW))
  have hel := Lib.hid (fun W (hW : Below w.heap.size w W) => sElapse_v n z v L S V now W (h.later hW))
  have HE0 := Lib.hid (ElB.start w v L S V)
  clear h
  obtain ⟨a, ha⟩ : ∃ a, eL n z L S V now = a := ⟨_, rfl⟩
  obtain ⟨b, hb⟩ : ∃ b, eS n z L S V now = b := ⟨_, rfl⟩
  rw [ha, hb] at hel
  obtain ⟨r1, hr1⟩ : ∃ r, r = deL n z L S V now D := ⟨_, rfl⟩
  obtain ⟨r2, hr2⟩ : ∃ r, r = deS n z L S V now D := ⟨_, rfl⟩
  obtain ⟨r3, hr3⟩ : ∃ r, r = deV n z L S V now D := ⟨_, rfl⟩
  obtain ⟨rb, hrb⟩ : ∃ r, r = deB n z L S V now D := ⟨_, rfl⟩
  rw [← hr1, ← hr2, ← hr3, ← hrb]
  have hno : ¬ DeP n z L S V now D a b → Hid (r1 = L ∧ r2 = S ∧ r3 = V ∧ rb = false) := fun h => by
    have := de_no (n := n) (z := z) (L := L) (S := S) (V := V) (now := now) (d := D) (by rw [ha, hb]; exact h)
    exact ⟨hr1.trans this.1, hr2.trans this.2.1, hr3.trans this.2.2.1, hrb.trans this.2.2.2⟩
  have hyes1 : DeP n z L S V now D a b → D = 1 → Hid (r1 = a ∧ r2 = b ∧ r3 = 1 ∧ rb = true) := fun h k => by
    have := de_clear ha hb h k
    exact ⟨hr1.trans this.1, hr2.trans this.2.1, hr3.trans this.2.2.1, hrb.trans this.2.2.2⟩
  have hyes2 : DeP n z L S V now D a b → D ≠ 1 → a = 4 → Hid (r1 = a ∧ r2 = b ∧ r3 = 2 ∧ rb = true) := fun h k k4 => by
    have := de_alarm ha hb h k k4
    exact ⟨hr1.trans this.1, hr2.trans this.2.1, hr3.trans this.2.2.1, hrb.trans this.2.2.2⟩
  have hyes3 : DeP n z L S V now D a b → D ≠ 1 → a ≠ 4 → Hid (r1 = a + 1 ∧ r2 = now ∧ r3 = 0 ∧ rb = true) := fun h k k4 => by
    have := de_on ha hb h k k4
    exact ⟨hr1.trans this.1, hr2.trans this.2.1, hr3.trans this.2.2.1, hrb.trans this.2.2.2⟩
  have hra : PoP n z → ScP L S V → 1 ≤ a ∧ a ≤ 4 := fun hp hs => by
    rw [← ha]
    unfold eL
    split
    · rename_i hh
      have := elp_range (hp.1 ▸ hp.2) (now := now) 3 L S hs.1.1 hs.1.2
      have := hs.1
      omega
    · exact hs.1
  clear hr1 hr2 hr3 hrb ha hb
  rcases Bool.eq_false_or_eq_true (poB n z) with p1 | p1
  rotate_left
  · have HN := hno (fun h => poB_not.1 p1 h.1)
    have P1 := Lib.hid p1
    clear p1 hno hyes1 hyes2 hyes3 hra hel
    go_enter Try.func60, Try.ntmps60
    go_wp2_with fail
    refine (hpo.out false P1.out _ HE0.out.2.2.2).mono ?_
    rintro e w1 ⟨rfl, hb1⟩
    have hE1 := HE0.out.later hb1
    have HE1 := Lib.hid hE1
    obtain ⟨a0, b0, b1, b2, d0, d1, d2, f0, f1, f2, g0, g1, g2⟩ := hE1.cells
    clear hE1 hb1
    go_wp2_with fail
    refine bodyPost_ret (v := .tuple #[.agg #[.int .i64 (L), .int .i64 (S), .int .i64 (V)], .bool false]) (by obtain ⟨y0, y1, y2⟩ := cells_res (HE1.out.2.2.1) (.int .i64 (L)) (.int .i64 (S)) (.int .i64 (V)); simp [results, Try.results60, go_sem, y0, y1, y2]) rfl ⟨by rw [HN.out.1, HN.out.2.1, HN.out.2.2.1, HN.out.2.2.2], below_res (HE1.out.2.2.2) _ (by omega) _ _ _⟩
  rcases Bool.eq_false_or_eq_true (scB L S V) with s1 | s1
  rotate_left
  · have HN := hno (fun h => scB_not.1 s1 h.2.1)
    have P1 := Lib.hid p1
    have S1 := Lib.hid s1
    clear p1 s1 hno hyes1 hyes2 hyes3 hra hel
    go_enter Try.func60, Try.ntmps60
    go_wp2_with fail
    refine (hpo.out true P1.out _ HE0.out.2.2.2).mono ?_
    rintro e w1 ⟨rfl, hb1⟩
    have hE1 := HE0.out.later hb1
    have HE1 := Lib.hid hE1
    obtain ⟨a0, b0, b1, b2, d0, d1, d2, f0, f1, f2, g0, g1, g2⟩ := hE1.cells
    clear hE1 hb1
    go_wp2_with fail
    refine (sScreenOk_at S1.out _).mono ?_
    rintro e w2 ⟨rfl, hb2⟩
    have hE2 := HE1.out.later hb2
    have HE2 := Lib.hid hE2
    clear hb2
    clear a0 b0 b1 b2 d0 d1 d2 f0 f1 f2 g0 g1 g2
    obtain ⟨a0, b0, b1, b2, d0, d1, d2, f0, f1, f2, g0, g1, g2⟩ := hE2.cells
    clear hE2
    go_wp2_with fail
    refine bodyPost_ret (v := .tuple #[.agg #[.int .i64 (L), .int .i64 (S), .int .i64 (V)], .bool false]) (by obtain ⟨y0, y1, y2⟩ := cells_res (HE2.out.2.2.1) (.int .i64 (L)) (.int .i64 (S)) (.int .i64 (V)); simp [results, Try.results60, go_sem, y0, y1, y2]) rfl ⟨by rw [HN.out.1, HN.out.2.1, HN.out.2.2.1, HN.out.2.2.2], below_res (HE2.out.2.2.2) _ (by omega) _ _ _⟩
  rcases Bool.eq_false_or_eq_true (inB 0 100000 now) with n1 | n1
  rotate_left
  · have HN := hno (fun h => inB_no.1 n1 h.2.2.1)
    have P1 := Lib.hid p1
    have S1 := Lib.hid s1
    have N1 := Lib.hid n1
    have M1 := N1
    clear p1 s1 n1 hno hyes1 hyes2 hyes3 hra hel
    go_enter Try.func60, Try.ntmps60
    go_wp2_with fail
    refine (hpo.out true P1.out _ HE0.out.2.2.2).mono ?_
    rintro e w1 ⟨rfl, hb1⟩
    have hE1 := HE0.out.later hb1
    have HE1 := Lib.hid hE1
    obtain ⟨a0, b0, b1, b2, d0, d1, d2, f0, f1, f2, g0, g1, g2⟩ := hE1.cells
    clear hE1 hb1
    go_wp2_with fail
    refine (sScreenOk_at S1.out _).mono ?_
    rintro e w2 ⟨rfl, hb2⟩
    have hE2 := HE1.out.later hb2
    have HE2 := Lib.hid hE2
    clear hb2
    clear a0 b0 b1 b2 d0 d1 d2 f0 f1 f2 g0 g1 g2
    obtain ⟨a0, b0, b1, b2, d0, d1, d2, f0, f1, f2, g0, g1, g2⟩ := hE2.cells
    clear hE2
    go_wp2_with (first | (go_at_call 76; with_reducible refine (specIn_at N1.out _).mono ?_; rintro e w' ⟨rfl, rfl⟩) | (go_at_call 76; with_reducible refine (specIn_at M1.out _).mono ?_; rintro e w' ⟨rfl, rfl⟩))
    refine bodyPost_ret (v := .tuple #[.agg #[.int .i64 (L), .int .i64 (S), .int .i64 (V)], .bool false]) (by obtain ⟨y0, y1, y2⟩ := cells_res (HE2.out.2.2.1) (.int .i64 (L)) (.int .i64 (S)) (.int .i64 (V)); simp [results, Try.results60, go_sem, y0, y1, y2]) rfl ⟨by rw [HN.out.1, HN.out.2.1, HN.out.2.2.1, HN.out.2.2.2], below_res (HE2.out.2.2.2) _ (by omega) _ _ _⟩
  rcases Bool.eq_false_or_eq_true (inB 0 2 D) with m1 | m1
  rotate_left
  · have HN := hno (fun h => inB_no.1 m1 h.2.2.2.1)
    have P1 := Lib.hid p1
    have S1 := Lib.hid s1
    have N1 := Lib.hid n1
    have M1 := Lib.hid m1
    clear p1 s1 n1 m1 hno hyes1 hyes2 hyes3 hra hel
    go_enter Try.func60, Try.ntmps60
    go_wp2_with fail
    refine (hpo.out true P1.out _ HE0.out.2.2.2).mono ?_
    rintro e w1 ⟨rfl, hb1⟩
    have hE1 := HE0.out.later hb1
    have HE1 := Lib.hid hE1
    obtain ⟨a0, b0, b1, b2, d0, d1, d2, f0, f1, f2, g0, g1, g2⟩ := hE1.cells
    clear hE1 hb1
    go_wp2_with fail
    refine (sScreenOk_at S1.out _).mono ?_
    rintro e w2 ⟨rfl, hb2⟩
    have hE2 := HE1.out.later hb2
    have HE2 := Lib.hid hE2
    clear hb2
    clear a0 b0 b1 b2 d0 d1 d2 f0 f1 f2 g0 g1 g2
    obtain ⟨a0, b0, b1, b2, d0, d1, d2, f0, f1, f2, g0, g1, g2⟩ := hE2.cells
    clear hE2
    go_wp2_with (first | (go_at_call 76; with_reducible refine (specIn_at N1.out _).mono ?_; rintro e w' ⟨rfl, rfl⟩) | (go_at_call 76; with_reducible refine (specIn_at M1.out _).mono ?_; rintro e w' ⟨rfl, rfl⟩))
    refine bodyPost_ret (v := .tuple #[.agg #[.int .i64 (L), .int .i64 (S), .int .i64 (V)], .bool false]) (by obtain ⟨y0, y1, y2⟩ := cells_res (HE2.out.2.2.1) (.int .i64 (L)) (.int .i64 (S)) (.int .i64 (V)); simp [results, Try.results60, go_sem, y0, y1, y2]) rfl ⟨by rw [HN.out.1, HN.out.2.1, HN.out.2.2.1, HN.out.2.2.2], below_res (HE2.out.2.2.2) _ (by omega) _ _ _⟩
  have hp := poB_iff.1 p1
  have hs := scB_iff.1 s1
  have hn := inB_iff.1 n1
  have HA := hra hp hs
  have P1 := Lib.hid p1
  have S1 := Lib.hid s1
  have N1 := Lib.hid n1
  clear p1 s1 n1 hra
  have hm := inB_iff.1 m1
  have M1 := Lib.hid m1
  clear m1
  by_cases hV : V = 0
  rotate_left
  · have HN := hno (fun h => hV h.2.2.2.2.1)
    have hVd : (V != 0) = true := by simpa using hV
    clear hno hyes1 hyes2 hyes3 hp hs hn hV hm
    go_enter Try.func60, Try.ntmps60
    go_wp2_with fail
    refine (hpo.out true P1.out _ HE0.out.2.2.2).mono ?_
    rintro e w1 ⟨rfl, hb1⟩
    have hE1 := HE0.out.later hb1
    have HE1 := Lib.hid hE1
    obtain ⟨a0, b0, b1, b2, d0, d1, d2, f0, f1, f2, g0, g1, g2⟩ := hE1.cells
    clear hE1 hb1
    go_wp2_with fail
    refine (sScreenOk_at S1.out _).mono ?_
    rintro e w2 ⟨rfl, hb2⟩
    have hE2 := HE1.out.later hb2
    have HE2 := Lib.hid hE2
    clear hb2
    clear a0 b0 b1 b2 d0 d1 d2 f0 f1 f2 g0 g1 g2
    obtain ⟨a0, b0, b1, b2, d0, d1, d2, f0, f1, f2, g0, g1, g2⟩ := hE2.cells
    clear hE2
    go_wp2_with (first | (go_at_call 76; with_reducible refine (specIn_at N1.out _).mono ?_; rintro e w' ⟨rfl, rfl⟩) | (go_at_call 76; with_reducible refine (specIn_at M1.out _).mono ?_; rintro e w' ⟨rfl, rfl⟩))
    refine (hel.out _ HE2.out.2.2.2).mono ?_
    rintro e w3 ⟨rfl, hb3⟩
    have HE3 := Lib.hid (HE2.out.later hb3)
    clear hb3
    clear a0 b0 b1 b2 d0 d1 d2 f0 f1 f2 g0 g1 g2
    obtain ⟨a0, b0, b1, b2, d0, d1, d2, f0, f1, f2, g0, g1, g2⟩ := HE3.out.cells
    go_upto_region 4 with fail
    obtain ⟨w4, hw4⟩ : ∃ x, x = w3.alloc (.cells #[.int .i64 a, .int .i64 b, .int .i64 V] 71) := ⟨_, rfl⟩
    rw [← hw4]
    have HE4 := Lib.hid (show ElB w w4 v L S V 0 0 0 by rw [hw4]; exact HE3.out.later ((Below.refl _ _).alloc (Nat.le_refl _) _))
    have XT : Hid (w4.heap[w3.heap.size]? = some (.cells #[.int .i64 a, .int .i64 b, .int .i64 V] 71 (0, 0))) := by rw [hw4]; exact heap_new _ _ _ rfl
    clear hw4
    clear a0 b0 b1 b2 d0 d1 d2 f0 f1 f2 g0 g1 g2
    obtain ⟨a0, b0, b1, b2, d0, d1, d2, f0, f1, f2, g0, g1, g2⟩ := HE4.out.cells
    obtain ⟨t0, t1, t2, s0, s1, s2⟩ := cells3 XT.out
    have HE5 := HE4
    go_wp2_with fail
    refine bodyPost_ret (v := .tuple #[.agg #[.int .i64 (L), .int .i64 (S), .int .i64 (V)], .bool false]) (by obtain ⟨y0, y1, y2⟩ := cells_res (HE5.out.2.2.1) (.int .i64 (L)) (.int .i64 (S)) (.int .i64 (V)); simp [results, Try.results60, go_sem, y0, y1, y2]) rfl ⟨by rw [HN.out.1, HN.out.2.1, HN.out.2.2.1, HN.out.2.2.2], below_res (HE5.out.2.2.2) _ (by omega) _ _ _⟩
  by_cases hnb : now < b
  · have HN := hno (fun h => by have := h.2.2.2.2.2.1; omega)
    have hnd : decide (now < b) = true := decide_eq_true hnb
    subst hV
    clear hno hyes1 hyes2 hyes3 hp hs hn hm
    go_enter Try.func60, Try.ntmps60
    go_wp2_with fail
    refine (hpo.out true P1.out _ HE0.out.2.2.2).mono ?_
    rintro e w1 ⟨rfl, hb1⟩
    have hE1 := HE0.out.later hb1
    have HE1 := Lib.hid hE1
    obtain ⟨a0, b0, b1, b2, d0, d1, d2, f0, f1, f2, g0, g1, g2⟩ := hE1.cells
    clear hE1 hb1
    go_wp2_with fail
    refine (sScreenOk_at S1.out _).mono ?_
    rintro e w2 ⟨rfl, hb2⟩
    have hE2 := HE1.out.later hb2
    have HE2 := Lib.hid hE2
    clear hb2
    clear a0 b0 b1 b2 d0 d1 d2 f0 f1 f2 g0 g1 g2
    obtain ⟨a0, b0, b1, b2, d0, d1, d2, f0, f1, f2, g0, g1, g2⟩ := hE2.cells
    clear hE2
    go_wp2_with (first | (go_at_call 76; with_reducible refine (specIn_at N1.out _).mono ?_; rintro e w' ⟨rfl, rfl⟩) | (go_at_call 76; with_reducible refine (specIn_at M1.out _).mono ?_; rintro e w' ⟨rfl, rfl⟩))
    refine (hel.out _ HE2.out.2.2.2).mono ?_
    rintro e w3 ⟨rfl, hb3⟩
    have HE3 := Lib.hid (HE2.out.later hb3)
    clear hb3
    clear a0 b0 b1 b2 d0 d1 d2 f0 f1 f2 g0 g1 g2
    obtain ⟨a0, b0, b1, b2, d0, d1, d2, f0, f1, f2, g0, g1, g2⟩ := HE3.out.cells
    go_upto_region 4 with fail
    obtain ⟨w4, hw4⟩ : ∃ x, x = w3.alloc (.cells #[.int .i64 a, .int .i64 b, .int .i64 0] 71) := ⟨_, rfl⟩
    rw [← hw4]
    have HE4 := Lib.hid (show ElB w w4 v L S 0 0 0 0 by rw [hw4]; exact HE3.out.later ((Below.refl _ _).alloc (Nat.le_refl _) _))
    have XT : Hid (w4.heap[w3.heap.size]? = some (.cells #[.int .i64 a, .int .i64 b, .int .i64 0] 71 (0, 0))) := by rw [hw4]; exact heap_new _ _ _ rfl
    clear hw4
    clear a0 b0 b1 b2 d0 d1 d2 f0 f1 f2 g0 g1 g2
    obtain ⟨a0, b0, b1, b2, d0, d1, d2, f0, f1, f2, g0, g1, g2⟩ := HE4.out.cells
    obtain ⟨t0, t1, t2, s0, s1, s2⟩ := cells3 XT.out
    have HE5 := HE4
    go_wp2_with fail
    refine bodyPost_ret (v := .tuple #[.agg #[.int .i64 (L), .int .i64 (S), .int .i64 (0)], .bool false]) (by obtain ⟨y0, y1, y2⟩ := cells_res (HE5.out.2.2.1) (.int .i64 (L)) (.int .i64 (S)) (.int .i64 (0)); simp [results, Try.results60, go_sem, y0, y1, y2]) rfl ⟨by rw [HN.out.1, HN.out.2.1, HN.out.2.2.1, HN.out.2.2.2], below_res (HE5.out.2.2.2) _ (by omega) _ _ _⟩
  have hnd : decide (now < b) = false := decide_eq_false hnb
  by_cases d1 : D = 1
  · have HY := hyes1 ⟨hp, hs, hn, hm, hV, by omega, by omega⟩ d1
    subst hV d1
    clear hno hyes1 hyes2 hyes3 hp hs hn hm
    go_enter Try.func60, Try.ntmps60
    go_wp2_with fail
    refine (hpo.out true P1.out _ HE0.out.2.2.2).mono ?_
    rintro e w1 ⟨rfl, hb1⟩
    have hE1 := HE0.out.later hb1
    have HE1 := Lib.hid hE1
    obtain ⟨a0, b0, b1, b2, d0, d1, d2, f0, f1, f2, g0, g1, g2⟩ := hE1.cells
    clear hE1 hb1
    go_wp2_with fail
    refine (sScreenOk_at S1.out _).mono ?_
    rintro e w2 ⟨rfl, hb2⟩
    have hE2 := HE1.out.later hb2
    have HE2 := Lib.hid hE2
    clear hb2
    clear a0 b0 b1 b2 d0 d1 d2 f0 f1 f2 g0 g1 g2
    obtain ⟨a0, b0, b1, b2, d0, d1, d2, f0, f1, f2, g0, g1, g2⟩ := hE2.cells
    clear hE2
    go_wp2_with (first | (go_at_call 76; with_reducible refine (specIn_at N1.out _).mono ?_; rintro e w' ⟨rfl, rfl⟩) | (go_at_call 76; with_reducible refine (specIn_at M1.out _).mono ?_; rintro e w' ⟨rfl, rfl⟩))
    refine (hel.out _ HE2.out.2.2.2).mono ?_
    rintro e w3 ⟨rfl, hb3⟩
    have HE3 := Lib.hid (HE2.out.later hb3)
    clear hb3
    clear a0 b0 b1 b2 d0 d1 d2 f0 f1 f2 g0 g1 g2
    obtain ⟨a0, b0, b1, b2, d0, d1, d2, f0, f1, f2, g0, g1, g2⟩ := HE3.out.cells
    go_upto_region 4 with fail
    obtain ⟨w4, hw4⟩ : ∃ x, x = w3.alloc (.cells #[.int .i64 a, .int .i64 b, .int .i64 0] 71) := ⟨_, rfl⟩
    rw [← hw4]
    have HE4 := Lib.hid (show ElB w w4 v L S 0 0 0 0 by rw [hw4]; exact HE3.out.later ((Below.refl _ _).alloc (Nat.le_refl _) _))
    have XT : Hid (w4.heap[w3.heap.size]? = some (.cells #[.int .i64 a, .int .i64 b, .int .i64 0] 71 (0, 0))) := by rw [hw4]; exact heap_new _ _ _ rfl
    clear hw4
    clear a0 b0 b1 b2 d0 d1 d2 f0 f1 f2 g0 g1 g2
    obtain ⟨a0, b0, b1, b2, d0, d1, d2, f0, f1, f2, g0, g1, g2⟩ := HE4.out.cells
    obtain ⟨t0, t1, t2, s0, s1, s2⟩ := cells3 XT.out
    go_upto_region 8 with fail
    obtain ⟨w5, hw5⟩ : ∃ x, x = (w4.setCell ⟨w3.heap.size, 2, none⟩ (.int .i64 (1))) := ⟨_, rfl⟩
    rw [← hw5]
    have HE5 := Lib.hid (show ElB w w5 v L S 0 0 0 0 by rw [hw5]; exact (HE4.out.far ⟨w3.heap.size, 2, none⟩ (.int .i64 (1)) (blk_lt' HE3.out.2.2.1)))
    have XT5 : Hid (w5.heap[w3.heap.size]? = some (.cells #[.int .i64 (a), .int .i64 (b), .int .i64 (1)] 71 (0, 0))) := by rw [hw5]; exact (blk_set (o := 2) XT.out (.int .i64 (1)))
    clear hw5
    clear a0 b0 b1 b2 d0 d1 d2 f0 f1 f2 g0 g1 g2 t0 t1 t2 s0 s1 s2
    obtain ⟨a0, b0, b1, b2, d0, d1, d2, f0, f1, f2, g0, g1, g2⟩ := HE5.out.cells
    obtain ⟨t0, t1, t2, s0, s1, s2⟩ := cells3 XT5.out
    go_wp2_with fail
    refine bodyPost_ret (v := .tuple #[.agg #[.int .i64 (a), .int .i64 (b), .int .i64 (1)], .bool true]) (by obtain ⟨y0, y1, y2⟩ := cells_res (HE5.out.2.2.1) (.int .i64 (a)) (.int .i64 (b)) (.int .i64 (1)); simp [results, Try.results60, go_sem, y0, y1, y2]) rfl ⟨by rw [HY.out.1, HY.out.2.1, HY.out.2.2.1, HY.out.2.2.2], below_res (HE5.out.2.2.2) _ (by omega) _ _ _⟩
  have hd1 : (D == 1) = false := by simpa using d1
  by_cases d2 : a = 4
  · have hd2 : True := trivial
    by_cases d0 : D = 0
    · have HN := hno (fun h => h.2.2.2.2.2.2 ⟨d0, d2⟩)
      subst hV d0 d2
      clear hno hyes1 hyes2 hyes3 hp hs hn hm d1 hd1
      go_enter Try.func60, Try.ntmps60
      go_wp2_with fail
      refine (hpo.out true P1.out _ HE0.out.2.2.2).mono ?_
      rintro e w1 ⟨rfl, hb1⟩
      have hE1 := HE0.out.later hb1
      have HE1 := Lib.hid hE1
      obtain ⟨a0, b0, b1, b2, d0, d1, d2, f0, f1, f2, g0, g1, g2⟩ := hE1.cells
      clear hE1 hb1
      go_wp2_with fail
      refine (sScreenOk_at S1.out _).mono ?_
      rintro e w2 ⟨rfl, hb2⟩
      have hE2 := HE1.out.later hb2
      have HE2 := Lib.hid hE2
      clear hb2
      clear a0 b0 b1 b2 d0 d1 d2 f0 f1 f2 g0 g1 g2
      obtain ⟨a0, b0, b1, b2, d0, d1, d2, f0, f1, f2, g0, g1, g2⟩ := hE2.cells
      clear hE2
      go_wp2_with (first | (go_at_call 76; with_reducible refine (specIn_at N1.out _).mono ?_; rintro e w' ⟨rfl, rfl⟩) | (go_at_call 76; with_reducible refine (specIn_at M1.out _).mono ?_; rintro e w' ⟨rfl, rfl⟩))
      refine (hel.out _ HE2.out.2.2.2).mono ?_
      rintro e w3 ⟨rfl, hb3⟩
      have HE3 := Lib.hid (HE2.out.later hb3)
      clear hb3
      clear a0 b0 b1 b2 d0 d1 d2 f0 f1 f2 g0 g1 g2
      obtain ⟨a0, b0, b1, b2, d0, d1, d2, f0, f1, f2, g0, g1, g2⟩ := HE3.out.cells
      go_upto_region 4 with fail
      obtain ⟨w4, hw4⟩ : ∃ x, x = w3.alloc (.cells #[.int .i64 4, .int .i64 b, .int .i64 0] 71) := ⟨_, rfl⟩
      rw [← hw4]
      have HE4 := Lib.hid (show ElB w w4 v L S 0 0 0 0 by rw [hw4]; exact HE3.out.later ((Below.refl _ _).alloc (Nat.le_refl _) _))
      have XT : Hid (w4.heap[w3.heap.size]? = some (.cells #[.int .i64 4, .int .i64 b, .int .i64 0] 71 (0, 0))) := by rw [hw4]; exact heap_new _ _ _ rfl
      clear hw4
      clear a0 b0 b1 b2 d0 d1 d2 f0 f1 f2 g0 g1 g2
      obtain ⟨a0, b0, b1, b2, d0, d1, d2, f0, f1, f2, g0, g1, g2⟩ := HE4.out.cells
      obtain ⟨t0, t1, t2, s0, s1, s2⟩ := cells3 XT.out
      have HE5 := HE4
      go_wp2_with fail
      refine bodyPost_ret (v := .tuple #[.agg #[.int .i64 (L), .int .i64 (S), .int .i64 (0)], .bool false]) (by obtain ⟨y0, y1, y2⟩ := cells_res (HE5.out.2.2.1) (.int .i64 (L)) (.int .i64 (S)) (.int .i64 (0)); simp [results, Try.results60, go_sem, y0, y1, y2]) rfl ⟨by rw [HN.out.1, HN.out.2.1, HN.out.2.2.1, HN.out.2.2.2], below_res (HE5.out.2.2.2) _ (by omega) _ _ _⟩
    have HY := hyes2 ⟨hp, hs, hn, hm, hV, by omega, by omega⟩ d1 d2
    obtain rfl : D = 2 := by omega
    subst hV d2
    clear hno hyes1 hyes2 hyes3 hp hs hn hm d1 hd1 d0
    go_enter Try.func60, Try.ntmps60
    go_wp2_with fail
    refine (hpo.out true P1.out _ HE0.out.2.2.2).mono ?_
    rintro e w1 ⟨rfl, hb1⟩
    have hE1 := HE0.out.later hb1
    have HE1 := Lib.hid hE1
    obtain ⟨a0, b0, b1, b2, d0, d1, d2, f0, f1, f2, g0, g1, g2⟩ := hE1.cells
    clear hE1 hb1
    go_wp2_with fail
    refine (sScreenOk_at S1.out _).mono ?_
    rintro e w2 ⟨rfl, hb2⟩
    have hE2 := HE1.out.later hb2
    have HE2 := Lib.hid hE2
    clear hb2
    clear a0 b0 b1 b2 d0 d1 d2 f0 f1 f2 g0 g1 g2
    obtain ⟨a0, b0, b1, b2, d0, d1, d2, f0, f1, f2, g0, g1, g2⟩ := hE2.cells
    clear hE2
    go_wp2_with (first | (go_at_call 76; with_reducible refine (specIn_at N1.out _).mono ?_; rintro e w' ⟨rfl, rfl⟩) | (go_at_call 76; with_reducible refine (specIn_at M1.out _).mono ?_; rintro e w' ⟨rfl, rfl⟩))
    refine (hel.out _ HE2.out.2.2.2).mono ?_
    rintro e w3 ⟨rfl, hb3⟩
    have HE3 := Lib.hid (HE2.out.later hb3)
    clear hb3
    clear a0 b0 b1 b2 d0 d1 d2 f0 f1 f2 g0 g1 g2
    obtain ⟨a0, b0, b1, b2, d0, d1, d2, f0, f1, f2, g0, g1, g2⟩ := HE3.out.cells
    go_upto_region 4 with fail
    obtain ⟨w4, hw4⟩ : ∃ x, x = w3.alloc (.cells #[.int .i64 4, .int .i64 b, .int .i64 0] 71) := ⟨_, rfl⟩
    rw [← hw4]
    have HE4 := Lib.hid (show ElB w w4 v L S 0 0 0 0 by rw [hw4]; exact HE3.out.later ((Below.refl _ _).alloc (Nat.le_refl _) _))
    have XT : Hid (w4.heap[w3.heap.size]? = some (.cells #[.int .i64 4, .int .i64 b, .int .i64 0] 71 (0, 0))) := by rw [hw4]; exact heap_new _ _ _ rfl
    clear hw4
    clear a0 b0 b1 b2 d0 d1 d2 f0 f1 f2 g0 g1 g2
    obtain ⟨a0, b0, b1, b2, d0, d1, d2, f0, f1, f2, g0, g1, g2⟩ := HE4.out.cells
    obtain ⟨t0, t1, t2, s0, s1, s2⟩ := cells3 XT.out
    go_upto_region 13 with fail
    obtain ⟨w5, hw5⟩ : ∃ x, x = (w4.setCell ⟨w3.heap.size, 2, none⟩ (.int .i64 (2))) := ⟨_, rfl⟩
    rw [← hw5]
    have HE5 := Lib.hid (show ElB w w5 v L S 0 0 0 0 by rw [hw5]; exact (HE4.out.far ⟨w3.heap.size, 2, none⟩ (.int .i64 (2)) (blk_lt' HE3.out.2.2.1)))
    have XT5 : Hid (w5.heap[w3.heap.size]? = some (.cells #[.int .i64 (4), .int .i64 (b), .int .i64 (2)] 71 (0, 0))) := by rw [hw5]; exact (blk_set (o := 2) XT.out (.int .i64 (2)))
    clear hw5
    clear a0 b0 b1 b2 d0 d1 d2 f0 f1 f2 g0 g1 g2 t0 t1 t2 s0 s1 s2
    obtain ⟨a0, b0, b1, b2, d0, d1, d2, f0, f1, f2, g0, g1, g2⟩ := HE5.out.cells
    obtain ⟨t0, t1, t2, s0, s1, s2⟩ := cells3 XT5.out
    go_wp2_with fail
    refine bodyPost_ret (v := .tuple #[.agg #[.int .i64 (4), .int .i64 (b), .int .i64 (2)], .bool true]) (by obtain ⟨y0, y1, y2⟩ := cells_res (HE5.out.2.2.1) (.int .i64 (4)) (.int .i64 (b)) (.int .i64 (2)); simp [results, Try.results60, go_sem, y0, y1, y2]) rfl ⟨by rw [HY.out.1, HY.out.2.1, HY.out.2.2.1, HY.out.2.2.2], below_res (HE5.out.2.2.2) _ (by omega) _ _ _⟩
  have HY := hyes3 ⟨hp, hs, hn, hm, hV, by omega, by omega⟩ d1 d2
  have hd2 : (a == 4) = false := by simpa using d2
  subst hV
  clear hno hyes1 hyes2 hyes3 hp hs hn hm d1 d2
  go_enter Try.func60, Try.ntmps60
  go_wp2_with fail
  refine (hpo.out true P1.out _ HE0.out.2.2.2).mono ?_
  rintro e w1 ⟨rfl, hb1⟩
  have hE1 := HE0.out.later hb1
  have HE1 := Lib.hid hE1
  obtain ⟨a0, b0, b1, b2, d0, d1, d2, f0, f1, f2, g0, g1, g2⟩ := hE1.cells
  clear hE1 hb1
  go_wp2_with fail
  refine (sScreenOk_at S1.out _).mono ?_
  rintro e w2 ⟨rfl, hb2⟩
  have hE2 := HE1.out.later hb2
  have HE2 := Lib.hid hE2
  clear hb2
  clear a0 b0 b1 b2 d0 d1 d2 f0 f1 f2 g0 g1 g2
  obtain ⟨a0, b0, b1, b2, d0, d1, d2, f0, f1, f2, g0, g1, g2⟩ := hE2.cells
  clear hE2
  go_wp2_with (first | (go_at_call 76; with_reducible refine (specIn_at N1.out _).mono ?_; rintro e w' ⟨rfl, rfl⟩) | (go_at_call 76; with_reducible refine (specIn_at M1.out _).mono ?_; rintro e w' ⟨rfl, rfl⟩))
  refine (hel.out _ HE2.out.2.2.2).mono ?_
  rintro e w3 ⟨rfl, hb3⟩
  have HE3 := Lib.hid (HE2.out.later hb3)
  clear hb3
  clear a0 b0 b1 b2 d0 d1 d2 f0 f1 f2 g0 g1 g2
  obtain ⟨a0, b0, b1, b2, d0, d1, d2, f0, f1, f2, g0, g1, g2⟩ := HE3.out.cells
  go_upto_region 4 with fail
  obtain ⟨w4, hw4⟩ : ∃ x, x = w3.alloc (.cells #[.int .i64 a, .int .i64 b, .int .i64 0] 71) := ⟨_, rfl⟩
  rw [← hw4]
  have HE4 := Lib.hid (show ElB w w4 v L S 0 0 0 0 by rw [hw4]; exact HE3.out.later ((Below.refl _ _).alloc (Nat.le_refl _) _))
  have XT : Hid (w4.heap[w3.heap.size]? = some (.cells #[.int .i64 a, .int .i64 b, .int .i64 0] 71 (0, 0))) := by rw [hw4]; exact heap_new _ _ _ rfl
  clear hw4
  clear a0 b0 b1 b2 d0 d1 d2 f0 f1 f2 g0 g1 g2
  obtain ⟨a0, b0, b1, b2, d0, d1, d2, f0, f1, f2, g0, g1, g2⟩ := HE4.out.cells
  obtain ⟨t0, t1, t2, s0, s1, s2⟩ := cells3 XT.out
  go_upto_region 16 with fail
  obtain ⟨w5, hw5⟩ : ∃ x, x = ((w4.setCell ⟨w3.heap.size, 0, none⟩ (.int .i64 (a + 1))).setCell ⟨w3.heap.size, 1, none⟩ (.int .i64 (now))) := ⟨_, rfl⟩
  rw [← hw5]
  have HE5 := Lib.hid (show ElB w w5 v L S 0 0 0 0 by rw [hw5]; exact ((HE4.out.far ⟨w3.heap.size, 0, none⟩ (.int .i64 (a + 1)) (blk_lt' HE3.out.2.2.1)).far ⟨w3.heap.size, 1, none⟩ (.int .i64 (now)) (blk_lt' HE3.out.2.2.1)))
  have XT5 : Hid (w5.heap[w3.heap.size]? = some (.cells #[.int .i64 (a + 1), .int .i64 (now), .int .i64 (0)] 71 (0, 0))) := by rw [hw5]; exact (blk_set (o := 1) (blk_set (o := 0) XT.out (.int .i64 (a + 1))) (.int .i64 (now)))
  clear hw5
  clear a0 b0 b1 b2 d0 d1 d2 f0 f1 f2 g0 g1 g2 t0 t1 t2 s0 s1 s2
  obtain ⟨a0, b0, b1, b2, d0, d1, d2, f0, f1, f2, g0, g1, g2⟩ := HE5.out.cells
  obtain ⟨t0, t1, t2, s0, s1, s2⟩ := cells3 XT5.out
  go_wp2_with fail
  refine bodyPost_ret (v := .tuple #[.agg #[.int .i64 (a + 1), .int .i64 (now), .int .i64 (0)], .bool true]) (by obtain ⟨y0, y1, y2⟩ := cells_res (HE5.out.2.2.1) (.int .i64 (a + 1)) (.int .i64 (now)) (.int .i64 (0)); simp [results, Try.results60, go_sem, y0, y1, y2]) rfl ⟨by rw [HY.out.1, HY.out.2.1, HY.out.2.2.1, HY.out.2.2.2], below_res (HE5.out.2.2.2) _ (by omega) _ _ _⟩

end Go.Proofs.Ytkdlhapbbnggoab
