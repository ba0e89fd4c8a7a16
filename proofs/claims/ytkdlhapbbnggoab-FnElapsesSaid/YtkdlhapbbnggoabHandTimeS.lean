/- What the model's HandTime returns. -/
import Derived.Test.YtkdlhapbbnggoabElapseS
import Derived.Test.YtkdlhapbbnggoabBlk
namespace Go.Proofs.Ytkdlhapbbnggoab
open Go.RowKit
set_option linter.unusedVariables false

set_option maxRecDepth 100000 in
set_option maxHeartbeats 8000000 in
theorem sHandTime_v (n : Nat) (z : Nat → Int) (v : Value) (L S V : Int) (w : World) (h : Rd w v n n z) :
    Calls Try.prog 54 #[.agg #[v], .agg #[.int .i64 L, .int .i64 S, .int .i64 V]] w fun e w' => e = .returned (.tuple #[.int .i64 (htI n z L S V), .bool (htB n z L S V)]) ∧ Below w.heap.size w w' := by
  have hpo := Lib.hid (fun (t : Bool) (ht : poB n z = t) W (hW : Below w.heap.size w W) => sPolicyOk_v ht (h.later hW))
  obtain ⟨r1, hr1⟩ : ∃ r, r = htI n z L S V := ⟨_, rfl⟩
  obtain ⟨rb, hrb⟩ : ∃ r, r = htB n z L S V := ⟨_, rfl⟩
  rw [← hr1, ← hrb]
  have hno : ¬ HtP n z L S V → Hid (r1 = 0 ∧ rb = false) := fun h => ⟨hr1.trans (ht_no h).1, hrb.trans (ht_no h).2⟩
  have hyes : HtP n z L S V → Hid (r1 = hT z L S ∧ rb = true) := fun h => ⟨hr1.trans (ht_yes h).1, hrb.trans (ht_yes h).2⟩
  clear hr1 hrb
  have B0 : Hid (Below w.heap.size w ((w.alloc (.cells #[v] 69)).alloc (.cells #[.int .i64 L, .int .i64 S, .int .i64 V] 71))) := ((Below.refl _ _).alloc (Nat.le_refl _) _).alloc (by simp) _
  rcases Bool.eq_false_or_eq_true (poB n z) with p1 | p1
  rotate_left
  · have HN := hno (fun h => poB_not.1 p1 h.1)
    have P1 := Lib.hid p1
    clear p1 hno hyes
    go_enter Try.func54, Try.ntmps54
    go_wp2_with fail
    refine (hpo.out false P1.out _ B0.out).mono ?_
    rintro e w1 ⟨rfl, hb1⟩
    have XP : Hid (w1.heap[w.heap.size]? = some (.cells #[v] 69 (0, 0))) := (hb1.block _ (by simp <;> omega)).trans ((heap_old _ _ _ (by simp)).trans (heap_new _ _ _ rfl))
    have XS : Hid (w1.heap[w.heap.size + 1]? = some (.cells #[.int .i64 L, .int .i64 S, .int .i64 V] 71 (0, 0))) := (hb1.block _ (by simp <;> omega)).trans (heap_new _ _ _ (by simp))
    have B1 := Lib.hid (below_via hb1 B0.out (by simp <;> omega))
    clear hb1
    obtain ⟨a0, -⟩ := cells1 XP.out
    obtain ⟨b0, b1, b2, -⟩ := cells3 XS.out
    go_wp2_with fail
    go_ret2
    exact ⟨by rw [HN.out.1, HN.out.2]; rfl, B1.out⟩
  rcases Bool.eq_false_or_eq_true (scB L S V) with s1 | s1
  rotate_left
  · have HN := hno (fun h => scB_not.1 s1 h.2.1)
    have P1 := Lib.hid p1
    have S1 := Lib.hid s1
    clear p1 s1 hno hyes
    go_enter Try.func54, Try.ntmps54
    go_wp2_with fail
    refine (hpo.out true P1.out _ B0.out).mono ?_
    rintro e w1 ⟨rfl, hb1⟩
    have XP : Hid (w1.heap[w.heap.size]? = some (.cells #[v] 69 (0, 0))) := (hb1.block _ (by simp <;> omega)).trans ((heap_old _ _ _ (by simp)).trans (heap_new _ _ _ rfl))
    have XS : Hid (w1.heap[w.heap.size + 1]? = some (.cells #[.int .i64 L, .int .i64 S, .int .i64 V] 71 (0, 0))) := (hb1.block _ (by simp <;> omega)).trans (heap_new _ _ _ (by simp))
    have B1 := Lib.hid (below_via hb1 B0.out (by simp <;> omega))
    clear hb1
    obtain ⟨a0, -⟩ := cells1 XP.out
    obtain ⟨b0, b1, b2, -⟩ := cells3 XS.out
    go_wp2_with fail
    refine (sScreenOk_at S1.out _).mono ?_
    rintro e w2 ⟨rfl, hb2⟩
    have YP := Lib.hid (blk_later XP.out hb2)
    have YS := Lib.hid (blk_later XS.out hb2)
    have B2 := Lib.hid (B1.out.trans (hb2.mono B1.out.size))
    clear a0 b0 b1 b2
    clear XP XS hb2
    have XP := YP
    have XS := YS
    clear YP YS
    obtain ⟨a0, -⟩ := cells1 XP.out
    obtain ⟨b0, b1, b2, -⟩ := cells3 XS.out
    go_wp2_with fail
    go_ret2
    exact ⟨by rw [HN.out.1, HN.out.2]; rfl, B2.out⟩
  by_cases hV : V = 0
  rotate_left
  · have HN := hno (fun h => hV h.2.2.1)
    have hVd : (V != 0) = true := by simpa using hV
    have P1 := Lib.hid p1
    have S1 := Lib.hid s1
    clear p1 s1 hno hyes hV
    go_enter Try.func54, Try.ntmps54
    go_wp2_with fail
    refine (hpo.out true P1.out _ B0.out).mono ?_
    rintro e w1 ⟨rfl, hb1⟩
    have XP : Hid (w1.heap[w.heap.size]? = some (.cells #[v] 69 (0, 0))) := (hb1.block _ (by simp <;> omega)).trans ((heap_old _ _ _ (by simp)).trans (heap_new _ _ _ rfl))
    have XS : Hid (w1.heap[w.heap.size + 1]? = some (.cells #[.int .i64 L, .int .i64 S, .int .i64 V] 71 (0, 0))) := (hb1.block _ (by simp <;> omega)).trans (heap_new _ _ _ (by simp))
    have B1 := Lib.hid (below_via hb1 B0.out (by simp <;> omega))
    clear hb1
    obtain ⟨a0, -⟩ := cells1 XP.out
    obtain ⟨b0, b1, b2, -⟩ := cells3 XS.out
    go_wp2_with fail
    refine (sScreenOk_at S1.out _).mono ?_
    rintro e w2 ⟨rfl, hb2⟩
    have YP := Lib.hid (blk_later XP.out hb2)
    have YS := Lib.hid (blk_later XS.out hb2)
    have B2 := Lib.hid (B1.out.trans (hb2.mono B1.out.size))
    clear a0 b0 b1 b2
    clear XP XS hb2
    have XP := YP
    have XS := YS
    clear YP YS
    obtain ⟨a0, -⟩ := cells1 XP.out
    obtain ⟨b0, b1, b2, -⟩ := cells3 XS.out
    go_wp2_with fail
    go_ret2
    exact ⟨by rw [HN.out.1, HN.out.2]; rfl, B2.out⟩
  subst hV
  have hp := poB_iff.1 p1
  have hs := scB_iff.1 s1
  have P1 := Lib.hid p1
  have S1 := Lib.hid s1
  clear p1 s1
  have hel := Lib.hid (fun (now : Int) W (hW : Below w.heap.size w W) => sElapse_v n z v L S 0 now W (h.later hW))
  have hiff := Lib.hid (fun (t : Int) (ht : S ≤ t) => hT_iff (hp.1 ▸ hp.2) (t := t) hs.1.1 hs.1.2 ht)
  have HP := Lib.hid hp
  have HS := Lib.hid hs
  have hs0 := hs.2.1
  clear hp hs h
  go_enter Try.func54, Try.ntmps54
  go_wp2_with fail
  refine (hpo.out true P1.out _ B0.out).mono ?_
  rintro e w1 ⟨rfl, hb1⟩
  have XP : Hid (w1.heap[w.heap.size]? = some (.cells #[v] 69 (0, 0))) := (hb1.block _ (by simp <;> omega)).trans ((heap_old _ _ _ (by simp)).trans (heap_new _ _ _ rfl))
  have XS : Hid (w1.heap[w.heap.size + 1]? = some (.cells #[.int .i64 L, .int .i64 S, .int .i64 0] 71 (0, 0))) := (hb1.block _ (by simp <;> omega)).trans (heap_new _ _ _ (by simp))
  have B1 := Lib.hid (below_via hb1 B0.out (by simp <;> omega))
  clear hb1
  obtain ⟨a0, -⟩ := cells1 XP.out
  obtain ⟨b0, b1, b2, -⟩ := cells3 XS.out
  go_wp2_with fail
  refine (sScreenOk_at S1.out _).mono ?_
  rintro e w2 ⟨rfl, hb2⟩
  have YP := Lib.hid (blk_later XP.out hb2)
  have YS := Lib.hid (blk_later XS.out hb2)
  have B2 := Lib.hid (B1.out.trans (hb2.mono B1.out.size))
  clear a0 b0 b1 b2
  clear XP XS hb2
  have XP := YP
  have XS := YS
  clear YP YS
  obtain ⟨a0, -⟩ := cells1 XP.out
  obtain ⟨b0, b1, b2, -⟩ := cells3 XS.out
  go_wp2_with fail
  clear a0 b0 b1 b2
  go_loopw [6] (fun t wr => ∃ k : Nat, t = .int .i64 (S + (k : Int)) ∧ S + (k : Int) ≤ 100001 ∧ wr.heap[w.heap.size]? = some (.cells #[v] 69 (0, 0)) ∧ wr.heap[w.heap.size + 1]? = some (.cells #[.int .i64 L, .int .i64 S, .int .i64 0] 71 (0, 0)) ∧ Below w.heap.size w wr ∧ Hid (S + (k : Int) ≤ hT z L S ∨ S + (k : Int) = 0 - 1)) (fun t _ => (100001 - intOf t).toNat)
  case atStart => exact ⟨0, by simp, by omega, XP.out, XS.out, B2.out, .inl (by unfold hT; have h1 := HP.out.2 0 (by have := HP.out.1; omega); have h2 := HP.out.2 1 (by have := HP.out.1; omega); have h3 := HP.out.2 2 (by have := HP.out.1; omega); split <;> split <;> split <;> omega)⟩
  case round =>
    obtain ⟨k, rfl, hk, xP, xS, hbw, HK⟩ := hrel
    have KP := Lib.hid xP
    have KS := Lib.hid xS
    obtain ⟨a0, -⟩ := cells1 xP
    obtain ⟨b0, b1, b2, -⟩ := cells3 xS
    clear xP xS
    obtain ⟨t, ht⟩ : ∃ t, t = S + (k : Int) := ⟨_, rfl⟩
    have HTT := Lib.hid ht
    rw [← ht] at hk HK ⊢
    have ht0 : 0 ≤ t := by omega
    have htS : S ≤ t := by omega
    clear ht
    by_cases hlt : t ≤ 100000
    · obtain ⟨a, ha⟩ : ∃ a, eL n z L S 0 t = a := ⟨_, rfl⟩
      obtain ⟨b, hb⟩ : ∃ b, eS n z L S 0 t = b := ⟨_, rfl⟩
      have hae : a = (elp z t 3 L S).1 := ha.symm.trans (eLS_yes ⟨HP.out, HS.out, ⟨ht0, hlt⟩, rfl⟩ rfl).1
      have h4 := hiff.out t htS
      rw [← hae] at h4
      have hcon := Lib.hid (fun W hW => hel.out t W hW)
      rw [ha, hb] at hcon
      clear ha hb hae
      by_cases hr : hT z L S ≤ t
      · have hTe : hT z L S = t := by have := HK.out; omega
        have HN := hyes ⟨HP.out, HS.out, rfl, by rw [hTe]; exact hlt⟩
        have HTE := Lib.hid hTe
        obtain rfl : a = 4 := h4.2 hr
        clear hr h4 hTe hno hyes
        go_wp2_with fail
        refine (hcon.out _ hbw).mono ?_
        rintro e w3 ⟨rfl, hb3⟩
        clear a0 b0 b1 b2
        go_wp2_with fail
        go_ret2
        exact ⟨by rw [HN.out.1, HN.out.2, HTE.out]; rfl, (hbw.trans (hb3.mono hbw.size)).alloc (Nat.le_trans hbw.size hb3.size) _⟩
      · have HR : Hid (S + ((k + 1 : Nat) : Int) ≤ hT z L S) := by have := HTT.out; show S + ((k + 1 : Nat) : Int) ≤ hT z L S; omega
        have ha4 : (a == 4) = false := by simpa using (fun h => hr (h4.1 h))
        clear hr h4 hno hyes
        go_wp2_with fail
        refine (hcon.out _ hbw).mono ?_
        rintro e w3 ⟨rfl, hb3⟩
        have MP := Lib.hid (blk_later KP.out hb3)
        have MS := Lib.hid (blk_later KS.out hb3)
        clear a0 b0 b1 b2
        go_wp2_with fail
        go_roundw
        case rel => exact ⟨k + 1, by congr 1; have := HTT.out; omega, by have := HTT.out; omega, (heap_old _ _ _ (blk_lt MP.out)).trans MP.out, (heap_old _ _ _ (blk_lt MS.out)).trans MS.out, (hbw.trans (hb3.mono hbw.size)).alloc (Nat.le_trans hbw.size hb3.size) _, .inl HR.out⟩
        case measure => simp only [intOf]; omega
    · have HN := hno (fun h => by have := h.2.2.2; have := HK.out; omega)
      have hlt' : decide (t ≤ 100000) = false := decide_eq_false hlt
      clear hno hyes
      go_wp2_with fail
      go_ret2
      exact ⟨by rw [HN.out.1, HN.out.2]; rfl, hbw⟩

end Go.Proofs.Ytkdlhapbbnggoab
