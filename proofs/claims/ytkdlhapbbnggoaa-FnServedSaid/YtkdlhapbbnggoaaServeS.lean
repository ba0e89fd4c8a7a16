/- What the model's Serve returns. -/
import Derived.Test.YtkdlhapbbnggoaaServe0
namespace Go.Proofs.Ytkdlhapbbnggoaa
open Go.RowKit
set_option linter.unusedVariables false

set_option maxRecDepth 100000 in
set_option maxHeartbeats 8000000 in
theorem sServe_v (n : Nat) (hn : n ≤ maxLen) (z : Nat → Int) (v : Value) (t s : Int) (w : World) (h : Rd w v n (n * 2) z) :
    Calls Try.prog 35 #[v, .int .i64 t, .int .i64 s] w fun e w' => ∃ v', e = .returned v' ∧ Own w' w.heap.size w'.heap.size v' (svN n z t s) (svN n z t s) (svO t s.toNat z) ∧ Below w.heap.size w w' := by
  obtain ⟨i0, hi, hz0, hz1, hz2⟩ := info_parts infoInt
  have hcon := Lib.hid (fun W (hW : Below w.heap.size w W) => sRight_v n hn z v t s W (h.later hW))
  unfold maxLen at hn
  by_cases hv : SvP n z t s
  rotate_left
  · have HN : svN n z t s = 0 := if_neg hv
    rw [svOk_no hv] at hcon
    have HN0 := Lib.hid HN
    clear HN
    go_enter Try.func35, Try.ntmps35
    go_wp2_with fail
    refine (hcon.out _ ((Below.refl _ _).alloc (Nat.le_refl _) _)).mono ?_
    rintro e w1 ⟨rfl, hb⟩
    go_wp2_with fail
    go_ret
    refine ⟨_, rfl, ?_, below_via hb ((Below.refl _ _).alloc (Nat.le_refl _) _) (by simp)⟩
    rw [HN0.out]
    exact ⟨_, _, 0, 0, rfl, Nat.zero_le _, FlatAt.zero _ _ _ _ _ _ _, fun j hj => absurd hj (by omega)⟩
  · have HN : svN n z t s = n := if_pos hv
    rw [svOk_yes hv] at hcon
    obtain ⟨hI, ⟨ht0, ht5⟩, hs1, hs2⟩ := hv
    obtain ⟨m, rfl⟩ : ∃ m : Nat, s = (m : Int) := ⟨s.toNat, by omega⟩
    rw [show ((m : Nat) : Int).toNat = m by omega, HN]
    obtain ⟨p, c, g0, o, rfl, hnc, hfl⟩ := h
    have c3 := cellsImage
    have hm1 : 0 < m := by omega
    have hm16 : m ≤ 16 := by omega
    have hn16 : n ≤ 16 := hI.1
    have HI := Lib.hid hI
    have HF := Lib.hid hfl
    have hmk := fun W => run_make (P := Try.prog) W 22 3 i0 _ Try.underlying22 hi hz0 .i64 .i64 (m : Int) (m : Int) (by omega) (by omega) (by rw [hz2]; omega) (by omega)
    simp only [Int.toNat_natCast, hz1, Nat.mul_one] at hmk
    obtain ⟨C, hC⟩ : ∃ C, C = madeCells (Value.int .i64 0).cells m := ⟨_, rfl⟩
    have hCs : C.size = m := by rw [hC]; exact size_madeCells _ _
    have hC0 : ∀ j, j < m → C[j]? = some (.int .i64 0) := fun j hj => by rw [hC]; exact made_at m j hj
    rw [← hC] at hmk
    have HC := Lib.hid hCs
    have HC0 := Lib.hid hC0
    clear hI hfl HN hC hCs hC0
    go_enter Try.func35, Try.ntmps35
    go_wp2_with fail
    refine (hcon.out _ ((Below.refl _ _).alloc (Nat.le_refl _) _)).mono ?_
    rintro e w1 ⟨rfl, hb⟩
    have HB1 := Lib.hid (below_via hb ((Below.refl _ _).alloc (Nat.le_refl _) _) (by simp))
    have XO : Hid (w1.heap[w.heap.size]? = some (.cells #[] 3 (0, 0))) := (hb.block _ (by simp)).trans (heap_new _ _ _ rfl)
    clear hb hcon
    go_wp2_with fail
    go_loopw [7, 9] (fun ov v wr => ∃ k g cap : Nat, k ≤ n ∧ v = .int .i64 (k : Int) ∧ ov = .slice (some ⟨g, 0, none⟩) k cap ∧ OutS wr w.heap.size w1.heap.size g cap k (svO t m z) ∧ FreS wr w1.heap.size m (svF t m z k) ∧ Below w.heap.size w wr) (fun _ v _ => n - (intOf v).toNat)
    case atStart =>
      have hs := HB1.out.size
      have hlt := blk_lt XO.out
      refine ⟨0, w.heap.size, 0, by omega, rfl, by simp, ⟨⟨rfl, .inr ⟨w.heap.size, 0, #[], rfl, by omega, (heap_old _ _ _ hlt).trans XO.out, Nat.le_refl _, by unfold maxLen; omega, rfl, rfl⟩⟩, by omega⟩, ⟨C, heap_new _ _ _ rfl, HC.out, fun j hj => HC0.out j hj⟩, HB1.out.alloc hs _⟩
    case round =>
      obtain ⟨k, g, cap, hk, rfl, rfl, hO, hFr, hbw⟩ := hrel
      obtain ⟨wo, rfl⟩ : ∃ x, x = wr := ⟨_, rfl⟩
      have hsz1 : w1.heap.size < wo.heap.size := hFr.lt
      have hszw : w.heap.size ≤ w1.heap.size := HB1.out.size
      by_cases hkn : k < n
      · obtain ⟨rfl, -, hg0⟩ := HF.out.1 (by omega)
        obtain ⟨e0, e1, e2, e3⟩ := HI.out.at hkn
        have hfr := svF_range ht5 (m := m) HI.out k (by omega)
        have hk0 : (0 : Int) ≤ (k : Int) := by omega
        have hkl : (k : Int) < (n : Int) := by omega
        obtain ⟨f, hf⟩ : ∃ f, f = svF t m z k := ⟨_, rfl⟩
        obtain ⟨a, ha⟩ : ∃ a, a = z (k * 2) := ⟨_, rfl⟩
        obtain ⟨nd, hnd⟩ : ∃ a, a = z (k * 2 + 1) := ⟨_, rfl⟩
        obtain ⟨r, hr⟩ : ∃ r, r = whoK f m := ⟨_, rfl⟩
        obtain ⟨x, hx⟩ : ∃ x, x = f r := ⟨_, rfl⟩
        have hrm : r < m := by rw [hr]; exact whoK_lt' hm1
        have hxr : 0 ≤ x ∧ x ≤ 110000 := by rw [hx, hf]; exact hfr r
        have hB : svB t m z k = beg a x := by rw [ha, hx, hr, hf]; rfl
        rw [← hf] at hFr
        rw [← ha] at e0 e1
        rw [← hnd] at e2 e3
        have hat : Hid (∀ W, Below w.heap.size w W → W.cell? ⟨g0, o + k * 2, none⟩ = some (.int .i64 a) ∧ W.cell? ⟨g0, o + k * 2 + 1, none⟩ = some (.int .i64 nd)) := fun W hW => by
          obtain ⟨a0, a1⟩ := HF.out.at2 hW (Nat.le_refl _) k (by omega)
          rw [ha, hnd]
          exact ⟨a0, a1⟩
        have hdrop : a + t < beg a x → svO t m z k = -1 ∧ ∀ j, f j = svF t m z (k + 1) j := fun h => by
          have h' : z (k * 2) + t < svB t m z k := by rw [hB, ← ha]; exact h
          exact ⟨svO_drop h', fun j => by rw [svF_drop h', hf]⟩
        have htake : ¬ a + t < beg a x → svO t m z k = beg a x ∧ ∀ j, (if j = r then beg a x + nd else f j) = svF t m z (k + 1) j := fun h => by
          have h' : ¬ z (k * 2) + t < svB t m z k := by rw [hB, ← ha]; exact h
          exact ⟨by rw [svO_take h', hB], fun j => by rw [svF_take h' j, hB, hnd, hr, hf]⟩
        have HD := Lib.hid hdrop
        have HT := Lib.hid htake
        have HRW : Hid (r = whoK f m) := hr
        have HX : Hid (x = f r) := hx
        have HO1 := Lib.hid hO
        have HF1 := Lib.hid hFr
        have HBW := Lib.hid hbw
        clear hfr hB hdrop htake ha hnd hx hr hf hO hFr hbw
        go_wp2_with fail
        go_loopw [10, 11] (fun wv v wi => ∃ j : Nat, j ≤ m ∧ v = .int .i64 (j : Int) ∧ wv = .int .i64 ((whoK f j : Nat) : Int) ∧ OutS wi w.heap.size w1.heap.size g cap k (svO t m z) ∧ FreS wi w1.heap.size m f ∧ Below w.heap.size w wi) (fun _ v _ => m - (intOf v).toNat)
        case atStart => exact ⟨0, by omega, rfl, rfl, HO1.out, HF1.out, HBW.out⟩
        case round =>
          obtain ⟨j, hj, rfl, rfl, hO, hFr, hbw⟩ := hrel
          obtain ⟨wi, rfl⟩ : ∃ x, x = wr := ⟨_, rfl⟩
          by_cases hjm : j < m
          · obtain ⟨q, hq⟩ : ∃ q, q = whoK f j := ⟨_, rfl⟩
            have hqm : q < m := by
              rw [hq]
              rcases Nat.eq_zero_or_pos j with h0 | h0
              · subst h0; exact hm1
              · have := whoK_lt' (f := f) h0; omega
            have hn1 : whoK f (j + 1) = if f j < f q then j else q := by rw [hq]; rfl
            rw [← hq]
            have cj := hFr.cell j hjm
            have cq := hFr.cell q hqm
            obtain ⟨y1, hy1⟩ : ∃ y, y = f j := ⟨_, rfl⟩
            obtain ⟨y2, hy2⟩ : ∃ y, y = f q := ⟨_, rfl⟩
            rw [← hy1] at cj hn1
            rw [← hy2] at cq hn1
            have HN1 := Lib.hid hn1
            have HOI := Lib.hid hO
            have HFI := Lib.hid hFr
            have hj0 : (0 : Int) ≤ (j : Int) := by omega
            have hjl : (j : Int) < (m : Int) := by omega
            have hq0 : (0 : Int) ≤ (q : Int) := by omega
            have hql : (q : Int) < (m : Int) := by omega
            clear hy1 hy2 hn1 hO hFr hq
            by_cases hc : y1 < y2
            · have hcd : decide (y1 < y2) = true := decide_eq_true hc
              go_wp2_with fail
              go_quiet (fail)
              go_wp2_with fail
              go_roundw
              case rel => exact ⟨j + 1, by omega, by congr 1, by rw [HN1.out, if_pos hc], HOI.out.keep rfl, HFI.out.keep rfl, below_drewN' hbw _⟩
              case measure => simp only [intOf]; omega
            · have hcd : decide (y1 < y2) = false := decide_eq_false hc
              go_wp2_with fail
              go_quiet (fail)
              go_wp2_with fail
              go_roundw
              case rel => exact ⟨j + 1, by omega, by congr 1, by rw [HN1.out, if_neg (by omega)], HOI.out.keep rfl, HFI.out.keep rfl, below_drewN' hbw _⟩
              case measure => simp only [intOf]; omega
          · obtain rfl : j = m := by omega
            rw [← HRW.out]
            have HO0 := Lib.hid hO
            have HF0 := Lib.hid hFr
            have HB0 := Lib.hid hbw
            obtain ⟨a0, a1⟩ := hat.out _ hbw
            have fc := hFr.cell r hrm
            rw [← HX.out] at fc
            have hr0 : (0 : Int) ≤ (r : Int) := by omega
            have hrl : (r : Int) < (j : Int) := by omega
            clear hO hFr hbw
            by_cases hlt : x < a
            · have hbeg : beg a x = a := if_pos (by omega)
              rw [hbeg] at HD HT
              have hd : ¬ a + t < a := by omega
              have HN := Lib.hid (HT.out (by omega))
              have hdd : decide (a + t < a) = false := decide_eq_false hd
              have hwr : IntKind.i64.wrap (a + nd) = a + nd := IntWalk.i64_in _ (by omega)
              clear HD HT
              go_wp2_with fail
              go_quiet (fail)
              generalize hwq : wi.drewN nq = wq
              have HO : Hid (OutS wq w.heap.size w1.heap.size g cap k (svO t j z)) := by rw [← hwq]; exact HO0.out.keep rfl
              have HFQ : Hid (FreS wq w1.heap.size j f) := by rw [← hwq]; exact HF0.out.keep rfl
              have HBQ : Hid (Below w.heap.size w wq) := by rw [← hwq]; exact below_drewN' HB0.out _
              clear hwq a0 a1 fc
              obtain ⟨a0, a1⟩ := hat.out _ HBQ.out
              have fc := HFQ.out.cell r hrm
              have ff := HFQ.out.free r
              rw [← HX.out] at fc
              go_wp2_with (at_builtin; refine wpList_append_lies _ rfl _ _ 22 rfl w.heap.size 3 i0 (.int .i64 0) 1 8 Try.underlying22 hi hz0 hz1 hz2 rfl (by decide) _ k _ rfl (HO.out.alloc _).1 ⟨wq.heap.size, 0, none⟩ 1 1 [.int .i64 (a)] rfl rfl (by intro j u hj; match j, hj with | 0, hj => simp at hj; subst hj; simp [Addr.add]) (by intro u hu; simp at hu; subst hu; rfl) (by omega) (by unfold maxLen; omega) (by omega) (by have := HBQ.out.size; simp; omega) (wq.heap.size + 1) (by simp) ?_; intro g2 cap2 w3 hown3 hgrow3 hat3 hlt3; have kk := HO.out.push HFQ.out HBQ.out HBQ.out.size a HN.out.1 hown3 hgrow3 hat3; have K1 := Lib.hid kk.1; have K2 := Lib.hid kk.2.1; have K3 := Lib.hid kk.2.2; clear hown3 hgrow3 hat3 a0 a1 fc ff kk; obtain ⟨a0, a1⟩ := hat.out _ K3.out; have fc := K2.out.cell r hrm; have ff := K2.out.free r)
              go_roundw
              case rel => exact ⟨k + 1, g2, cap2, by omega, by congr 1, rfl, K1.out.set r _, (K2.out.set r hrm (a + nd)).congr HN.out.2, K3.out.setCell hszw _⟩
              case measure => simp only [intOf]; omega
            by_cases heq : x = a
            · subst heq
              have hbeg : beg x x = x := if_pos (by omega)
              rw [hbeg] at HD HT
              have hd : ¬ x + t < x := by omega
              have HN := Lib.hid (HT.out (by omega))
              have hdd : decide (x + t < x) = false := decide_eq_false hd
              have hwr : IntKind.i64.wrap (x + nd) = x + nd := IntWalk.i64_in _ (by omega)
              clear HD HT
              go_wp2_with fail
              go_quiet (fail)
              generalize hwq : wi.drewN nq = wq
              have HO : Hid (OutS wq w.heap.size w1.heap.size g cap k (svO t j z)) := by rw [← hwq]; exact HO0.out.keep rfl
              have HFQ : Hid (FreS wq w1.heap.size j f) := by rw [← hwq]; exact HF0.out.keep rfl
              have HBQ : Hid (Below w.heap.size w wq) := by rw [← hwq]; exact below_drewN' HB0.out _
              clear hwq a0 a1 fc
              obtain ⟨a0, a1⟩ := hat.out _ HBQ.out
              have fc := HFQ.out.cell r hrm
              have ff := HFQ.out.free r
              rw [← HX.out] at fc
              go_wp2_with (at_builtin; refine wpList_append_lies _ rfl _ _ 22 rfl w.heap.size 3 i0 (.int .i64 0) 1 8 Try.underlying22 hi hz0 hz1 hz2 rfl (by decide) _ k _ rfl (HO.out.alloc _).1 ⟨wq.heap.size, 0, none⟩ 1 1 [.int .i64 (x)] rfl rfl (by intro j u hj; match j, hj with | 0, hj => simp at hj; subst hj; simp [Addr.add]) (by intro u hu; simp at hu; subst hu; rfl) (by omega) (by unfold maxLen; omega) (by omega) (by have := HBQ.out.size; simp; omega) (wq.heap.size + 1) (by simp) ?_; intro g2 cap2 w3 hown3 hgrow3 hat3 hlt3; have kk := HO.out.push HFQ.out HBQ.out HBQ.out.size x HN.out.1 hown3 hgrow3 hat3; have K1 := Lib.hid kk.1; have K2 := Lib.hid kk.2.1; have K3 := Lib.hid kk.2.2; clear hown3 hgrow3 hat3 a0 a1 fc ff kk; obtain ⟨a0, a1⟩ := hat.out _ K3.out; have fc := K2.out.cell r hrm; have ff := K2.out.free r)
              go_roundw
              case rel => exact ⟨k + 1, g2, cap2, by omega, by congr 1, rfl, K1.out.set r _, (K2.out.set r hrm (x + nd)).congr HN.out.2, K3.out.setCell hszw _⟩
              case measure => simp only [intOf]; omega
            by_cases hd : a + t < x
            · have hbeg : beg a x = x := if_neg (by omega)
              rw [hbeg] at HD HT
              have HN := Lib.hid (HD.out hd)
              have hdd : decide (a + t < x) = true := decide_eq_true hd
              clear HD HT
              go_wp2_with fail
              go_quiet (fail)
              generalize hwq : wi.drewN nq = wq
              have HO : Hid (OutS wq w.heap.size w1.heap.size g cap k (svO t j z)) := by rw [← hwq]; exact HO0.out.keep rfl
              have HFQ : Hid (FreS wq w1.heap.size j f) := by rw [← hwq]; exact HF0.out.keep rfl
              have HBQ : Hid (Below w.heap.size w wq) := by rw [← hwq]; exact below_drewN' HB0.out _
              clear hwq a0 a1 fc
              obtain ⟨a0, a1⟩ := hat.out _ HBQ.out
              have fc := HFQ.out.cell r hrm
              have ff := HFQ.out.free r
              rw [← HX.out] at fc
              go_wp2_with (at_builtin; refine wpList_append_lies _ rfl _ _ 22 rfl w.heap.size 3 i0 (.int .i64 0) 1 8 Try.underlying22 hi hz0 hz1 hz2 rfl (by decide) _ k _ rfl (HO.out.alloc _).1 ⟨wq.heap.size, 0, none⟩ 1 1 [.int .i64 (-1)] rfl rfl (by intro j u hj; match j, hj with | 0, hj => simp at hj; subst hj; simp [Addr.add]) (by intro u hu; simp at hu; subst hu; rfl) (by omega) (by unfold maxLen; omega) (by omega) (by have := HBQ.out.size; simp; omega) (wq.heap.size + 1) (by simp) ?_; intro g2 cap2 w3 hown3 hgrow3 hat3 hlt3)
              obtain ⟨k1, k2, k3⟩ := HO.out.push HFQ.out HBQ.out HBQ.out.size (-1) HN.out.1 hown3 hgrow3 hat3
              have K2 := k2.congr HN.out.2
              clear hown3 hgrow3 hat3
              go_wp2_with fail
              go_roundw
              case rel => exact ⟨k + 1, g2, cap2, by omega, by congr 1, rfl, k1, K2, k3⟩
              case measure => simp only [intOf]; omega
            have hbeg : beg a x = x := if_neg (by omega)
            rw [hbeg] at HD HT
            have HN := Lib.hid (HT.out (by omega))
            have hdd : decide (a + t < x) = false := decide_eq_false hd
            have hwr : IntKind.i64.wrap (x + nd) = x + nd := IntWalk.i64_in _ (by omega)
            clear HD HT
            go_wp2_with fail
            go_quiet (fail)
            generalize hwq : wi.drewN nq = wq
            have HO : Hid (OutS wq w.heap.size w1.heap.size g cap k (svO t j z)) := by rw [← hwq]; exact HO0.out.keep rfl
            have HFQ : Hid (FreS wq w1.heap.size j f) := by rw [← hwq]; exact HF0.out.keep rfl
            have HBQ : Hid (Below w.heap.size w wq) := by rw [← hwq]; exact below_drewN' HB0.out _
            clear hwq a0 a1 fc
            obtain ⟨a0, a1⟩ := hat.out _ HBQ.out
            have fc := HFQ.out.cell r hrm
            have ff := HFQ.out.free r
            rw [← HX.out] at fc
            go_wp2_with (at_builtin; refine wpList_append_lies _ rfl _ _ 22 rfl w.heap.size 3 i0 (.int .i64 0) 1 8 Try.underlying22 hi hz0 hz1 hz2 rfl (by decide) _ k _ rfl (HO.out.alloc _).1 ⟨wq.heap.size, 0, none⟩ 1 1 [.int .i64 (x)] rfl rfl (by intro j u hj; match j, hj with | 0, hj => simp at hj; subst hj; simp [Addr.add]) (by intro u hu; simp at hu; subst hu; rfl) (by omega) (by unfold maxLen; omega) (by omega) (by have := HBQ.out.size; simp; omega) (wq.heap.size + 1) (by simp) ?_; intro g2 cap2 w3 hown3 hgrow3 hat3 hlt3; have kk := HO.out.push HFQ.out HBQ.out HBQ.out.size x HN.out.1 hown3 hgrow3 hat3; have K1 := Lib.hid kk.1; have K2 := Lib.hid kk.2.1; have K3 := Lib.hid kk.2.2; clear hown3 hgrow3 hat3 a0 a1 fc ff kk; obtain ⟨a0, a1⟩ := hat.out _ K3.out; have fc := K2.out.cell r hrm; have ff := K2.out.free r)
            go_roundw
            case rel => exact ⟨k + 1, g2, cap2, by omega, by congr 1, rfl, K1.out.set r _, (K2.out.set r hrm (x + nd)).congr HN.out.2, K3.out.setCell hszw _⟩
            case measure => simp only [intOf]; omega
      · obtain rfl : k = n := by omega
        go_wp2_with fail
        go_ret
        exact ⟨_, rfl, by have h1 := Own.of_own (z := svO t m z) hO.1 (fun j hj => by simp [List.getElem?_range (show j < k by omega)]); rwa [Nat.mul_one] at h1, hbw⟩

end Go.Proofs.Ytkdlhapbbnggoaa
