/- What the program's Serve returns. -/
import Derived.Test.YtkdlhapbbnggoaaServe0
namespace Go.Proofs.Ytkdlhapbbnggoaa
open Go.RowKit
set_option linter.unusedVariables false

set_option maxRecDepth 100000 in
set_option maxHeartbeats 8000000 in
theorem iServe_v (n : Nat) (hn : n ≤ maxLen) (z : Nat → Int) (v : Value) (t s : Int) (w : World) (h : Rd w v n (n * 2) z) :
    Calls Try.prog 36 #[v, .int .i64 t, .int .i64 s] w fun e w' => ∃ v', e = .returned v' ∧ Own w' w.heap.size w'.heap.size v' (svN n z t s) (svN n z t s) (svO t s.toNat z) ∧ Below w.heap.size w w' := by
  obtain ⟨i0, hi, hz0, hz1, hz2⟩ := info_parts infoInt
  have hcon := Lib.hid (fun W (hW : Below w.heap.size w W) => iServeOk_v n hn z v t s W (h.later hW))
  unfold maxLen at hn
  by_cases hv : SvP n z t s
  rotate_left
  · have HN : svN n z t s = 0 := if_neg hv
    rw [svOk_no hv] at hcon
    have HN0 := Lib.hid HN
    clear HN
    go_enter Try.func36, Try.ntmps36
    go_wp2_with fail
    refine (hcon.out _ (Below.refl _ _)).mono ?_
    rintro e w1 ⟨rfl, hb⟩
    go_wp2_with fail
    go_ret
    refine ⟨_, rfl, ?_, hb⟩
    rw [HN0.out]
    exact ⟨_, _, 0, 0, rfl, Nat.zero_le _, FlatAt.zero _ _ _ _ _ _ _, fun j hj => absurd hj (by omega)⟩
  · have HN : svN n z t s = n := if_pos hv
    rw [svOk_yes hv] at hcon
    obtain ⟨hI, ⟨ht0, ht5⟩, hs1, hs2⟩ := hv
    obtain ⟨m, rfl⟩ : ∃ m : Nat, s = (m : Int) := ⟨s.toNat, by omega⟩
    rw [show ((m : Nat) : Int).toNat = m by omega, HN]
    obtain ⟨p, c, g0, o, rfl, hnc, hfl⟩ := h
    have c3 := cellsImage
    have hm1 : 0 < m := by omega
    have hm16 : m ≤ 16 := by omega
    have hn16 : n ≤ 16 := hI.1
    have HI := Lib.hid hI
    have HF := Lib.hid hfl
    have hmk := fun W => run_make (P := Try.prog) W 22 3 i0 _ Try.underlying22 hi hz0 .i64 .i64 (m : Int) (m : Int) (by omega) (by omega) (by rw [hz2]; omega) (by omega)
    simp only [Int.toNat_natCast, hz1, Nat.mul_one] at hmk
    obtain ⟨C, hC⟩ : ∃ C, C = madeCells (Value.int .i64 0).cells m := ⟨_, rfl⟩
    have hCs : C.size = m := by rw [hC]; exact size_madeCells _ _
    have hC0 : ∀ j, j < m → C[j]? = some (.int .i64 0) := fun j hj => by rw [hC]; exact made_at m j hj
    rw [← hC] at hmk
    have HC := Lib.hid hCs
    have HC0 := Lib.hid hC0
    clear hI hfl HN hC hCs hC0
    go_enter Try.func36, Try.ntmps36
    go_wp2_with fail
    refine (hcon.out _ (Below.refl _ _)).mono ?_
    rintro e w1 ⟨rfl, hb⟩
    have HB1 := Lib.hid (hb)
    clear hb hcon
    go_wp2_with fail
    go_loopw [8, 23] (fun ov v wr => ∃ k g cap : Nat, k ≤ n ∧ v = .int .i64 (k : Int) ∧ ov = .slice (some ⟨g, 0, none⟩) k cap ∧ OutS wr w.heap.size w1.heap.size g cap k (svO t m z) ∧ FreS wr w1.heap.size m (svF t m z k) ∧ Below w.heap.size w wr) (fun _ v _ => n - (intOf v).toNat)
    case atStart =>
      have hs := HB1.out.size
      refine ⟨0, w1.heap.size + 1, 0, by omega, rfl, by simp, ⟨⟨rfl, .inr ⟨w1.heap.size + 1, 0, #[], rfl, by omega, heap_new _ _ _ (by simp), Nat.le_refl _, by unfold maxLen; omega, rfl, rfl⟩⟩, by omega⟩, ⟨C, (heap_old _ _ _ (by simp)).trans (heap_new _ _ _ rfl), HC.out, fun j hj => HC0.out j hj⟩, (HB1.out.alloc hs _).alloc (by simp; omega) _⟩
    case round =>
      obtain ⟨k, g, cap, hk, rfl, rfl, hO, hFr, hbw⟩ := hrel
      have HB := Lib.hid hbw
      have hsz1 : w1.heap.size < wr.heap.size := hFr.lt
      have hszw : w.heap.size ≤ w1.heap.size := HB1.out.size
      by_cases hkn : k < n
      · obtain ⟨rfl, -, hg0⟩ := HF.out.1 (by omega)
        obtain ⟨a0, a1⟩ := HF.out.at2 hbw (Nat.le_refl _) k (by omega)
        obtain ⟨e0, e1, e2, e3⟩ := HI.out.at hkn
        have hfr := svF_range ht5 (m := m) HI.out k (by omega)
        have hk0 : (0 : Int) ≤ (k : Int) := by omega
        have hkl : (k : Int) < (n : Int) := by omega
        obtain ⟨f, hf⟩ : ∃ f, f = svF t m z k := ⟨_, rfl⟩
        obtain ⟨a, ha⟩ : ∃ a, a = z (k * 2) := ⟨_, rfl⟩
        obtain ⟨nd, hnd⟩ : ∃ a, a = z (k * 2 + 1) := ⟨_, rfl⟩
        obtain ⟨r, hr⟩ : ∃ r, r = whoK f m := ⟨_, rfl⟩
        obtain ⟨x, hx⟩ : ∃ x, x = f r := ⟨_, rfl⟩
        have hrm : r < m := by rw [hr]; exact whoK_lt' hm1
        have hxr : 0 ≤ x ∧ x ≤ 110000 := by rw [hx, hf]; exact hfr r
        have hB : svB t m z k = beg a x := by rw [ha, hx, hr, hf]; rfl
        rw [← hf] at hFr
        rw [← ha] at a0 e0 e1
        rw [← hnd] at a1 e2 e3
        -- the next state
        have hdrop : a + t < beg a x → svO t m z k = -1 ∧ ∀ j, f j = svF t m z (k + 1) j := fun h => by
          have h' : z (k * 2) + t < svB t m z k := by rw [hB, ← ha]; exact h
          exact ⟨svO_drop h', fun j => by rw [svF_drop h', hf]⟩
        have htake : ¬ a + t < beg a x → svO t m z k = beg a x ∧ ∀ j, (if j = r then beg a x + nd else f j) = svF t m z (k + 1) j := fun h => by
          have h' : ¬ z (k * 2) + t < svB t m z k := by rw [hB, ← ha]; exact h
          exact ⟨by rw [svO_take h', hB], fun j => by rw [svF_take h' j, hB, hnd, hr, hf]⟩
        have HD := Lib.hid hdrop
        have HT := Lib.hid htake
        have HRW : Hid (r = whoK f m) := hr
        have HX : Hid (x = f r) := hx
        have HXW : Hid (x = f (whoK f m)) := hx.trans (congrArg f hr)
        clear hfr hB hdrop htake ha hnd hx hr hf
        go_wp2_with fail
        obtain ⟨wq, hwq⟩ : ∃ q, q = wr.alloc (.cells #[.int .i64 a, .int .i64 nd] 65) := ⟨_, rfl⟩
        rw [← hwq]
        have HO : Hid (OutS wq w.heap.size w1.heap.size g cap k (svO t m z)) := by rw [hwq]; exact hO.alloc _
        have HFQ : Hid (FreS wq w1.heap.size m f) := by rw [hwq]; exact hFr.alloc _
        have HBQ : Hid (Below w.heap.size w wq) := by rw [hwq]; exact hbw.alloc hbw.size _
        have hI : wq.heap[wr.heap.size]? = some (.cells #[.int .i64 a, .int .i64 nd] 65 (0, 0)) := by rw [hwq]; exact heap_new _ _ _ rfl
        have i0c : wq.cell? ⟨wr.heap.size, 0, none⟩ = some (.int .i64 a) := by rw [cell_of_row _ _ _ _ _ _ hI]; rfl
        have i1c : wq.cell? ⟨wr.heap.size, 1, none⟩ = some (.int .i64 nd) := by rw [cell_of_row _ _ _ _ _ _ hI]; rfl
        have hqs : wr.heap.size + 1 = wq.heap.size := by rw [hwq]; simp
        clear hwq hO hFr hbw a0 a1 hI
        refine (min_any m hm1 (by omega) f _ _ wq (fun j hj => HFQ.out.cell j hj)).mono ?_
        rintro e w' ⟨rfl, rfl⟩
        rw [← HXW.out]
        by_cases hlt : x < a
        · have hbeg : beg a x = a := if_pos (by omega)
          rw [hbeg] at HD HT
          have hd : ¬ a + t < a := by omega
          have HN := Lib.hid (HT.out (by omega))
          have hdd : decide (a + t < a) = false := decide_eq_false hd
          have hwr : IntKind.i64.wrap (a + nd) = a + nd := IntWalk.i64_in _ (by omega)
          have hr0 : (0 : Int) ≤ (r : Int) := by omega
          have hrl : (r : Int) < (m : Int) := by omega
          have fc := HFQ.out.cell r hrm
          have ff := HFQ.out.free r
          rw [← HX.out] at fc
          clear HD HT
          go_wp2_with fail
          have hIF : wr.heap.size ≠ w1.heap.size := by omega
          have hFI : w1.heap.size ≠ wr.heap.size := by omega
          go_region_held3 (fun K => K.cell? ⟨wr.heap.size, 1, none⟩ = some (.int .i64 nd))
            (first | exact i1c | go_keep)
            (first | (go_at_call 62; (refine (idx_any m hm1 (by omega) f _ _ x HXW.out wq.drew (fun j hj => HFQ.out.cell j hj)).mono ?_); rintro e k1 ⟨rfl, rfl⟩; rw [← HRW.out]))
          obtain ⟨w2, hw2⟩ : ∃ q, q = (wq.setCell ⟨w1.heap.size, r, none⟩ (.int .i64 (a + nd))).drew := ⟨_, rfl⟩
          rw [← hw2]
          have HO2 : Hid (OutS w2 w.heap.size w1.heap.size g cap k (svO t m z)) := by rw [hw2]; exact HO.out.set r _
          have HF2 : Hid (FreS w2 w1.heap.size m (svF t m z (k + 1))) := by rw [hw2]; exact (HFQ.out.set r hrm (a + nd)).congr HN.out.2
          have HB2 : Hid (Below w.heap.size w w2) := by rw [hw2]; exact (HBQ.out.setCell hszw _).drew
          clear hw2 fc ff i0c i1c
          go_wp2_with (at_builtin; refine wpList_append_lies _ rfl _ _ 22 rfl w.heap.size 3 i0 (.int .i64 0) 1 8 Try.underlying22 hi hz0 hz1 hz2 rfl (by decide) _ k _ rfl (HO2.out.alloc _).1 ⟨w2.heap.size, 0, none⟩ 1 1 [.int .i64 a] rfl rfl (by intro j u hj; match j, hj with | 0, hj => simp at hj; subst hj; simp [Addr.add]) (by intro u hu; simp at hu; subst hu; rfl) (by omega) (by unfold maxLen; omega) (by omega) (by have := HB2.out.size; simp; omega) (w2.heap.size + 1) (by simp) ?_; intro g2 cap2 w3 hown3 hgrow3 hat3 hlt3)
          obtain ⟨k1, k2, k3⟩ := HO2.out.push HF2.out HB2.out HB2.out.size a HN.out.1 hown3 hgrow3 hat3
          clear hown3 hgrow3 hat3
          go_wp2_with fail
          go_roundw
          case rel => exact ⟨k + 1, g2, cap2, by omega, by congr 1, rfl, k1, k2, k3⟩
          case measure => simp only [intOf]; omega
        by_cases heq : x = a
        · have hbeg : beg a x = a := if_pos (by omega)
          rw [hbeg] at HD HT
          subst heq
          have hd : ¬ x + t < x := by omega
          have HN := Lib.hid (HT.out (by omega))
          have hdd : decide (x + t < x) = false := decide_eq_false hd
          have hwr : IntKind.i64.wrap (x + nd) = x + nd := IntWalk.i64_in _ (by omega)
          have hr0 : (0 : Int) ≤ (r : Int) := by omega
          have hrl : (r : Int) < (m : Int) := by omega
          have fc := HFQ.out.cell r hrm
          have ff := HFQ.out.free r
          rw [← HX.out] at fc
          clear HD HT
          go_wp2_with fail
          have hIF : wr.heap.size ≠ w1.heap.size := by omega
          have hFI : w1.heap.size ≠ wr.heap.size := by omega
          go_region_held3 (fun K => K.cell? ⟨wr.heap.size, 1, none⟩ = some (.int .i64 nd))
            (first | exact i1c | go_keep)
            (first | (go_at_call 62; (refine (idx_any m hm1 (by omega) f _ _ x HXW.out wq.drew (fun j hj => HFQ.out.cell j hj)).mono ?_); rintro e k1 ⟨rfl, rfl⟩; rw [← HRW.out]))
          obtain ⟨w2, hw2⟩ : ∃ q, q = (wq.setCell ⟨w1.heap.size, r, none⟩ (.int .i64 (x + nd))).drew := ⟨_, rfl⟩
          rw [← hw2]
          have HO2 : Hid (OutS w2 w.heap.size w1.heap.size g cap k (svO t m z)) := by rw [hw2]; exact HO.out.set r _
          have HF2 : Hid (FreS w2 w1.heap.size m (svF t m z (k + 1))) := by rw [hw2]; exact (HFQ.out.set r hrm (x + nd)).congr HN.out.2
          have HB2 : Hid (Below w.heap.size w w2) := by rw [hw2]; exact (HBQ.out.setCell hszw _).drew
          clear hw2 fc ff i0c i1c
          go_wp2_with (at_builtin; refine wpList_append_lies _ rfl _ _ 22 rfl w.heap.size 3 i0 (.int .i64 0) 1 8 Try.underlying22 hi hz0 hz1 hz2 rfl (by decide) _ k _ rfl (HO2.out.alloc _).1 ⟨w2.heap.size, 0, none⟩ 1 1 [.int .i64 x] rfl rfl (by intro j u hj; match j, hj with | 0, hj => simp at hj; subst hj; simp [Addr.add]) (by intro u hu; simp at hu; subst hu; rfl) (by omega) (by unfold maxLen; omega) (by omega) (by have := HB2.out.size; simp; omega) (w2.heap.size + 1) (by simp) ?_; intro g2 cap2 w3 hown3 hgrow3 hat3 hlt3)
          obtain ⟨k1, k2, k3⟩ := HO2.out.push HF2.out HB2.out HB2.out.size x HN.out.1 hown3 hgrow3 hat3
          clear hown3 hgrow3 hat3
          go_wp2_with fail
          go_roundw
          case rel => exact ⟨k + 1, g2, cap2, by omega, by congr 1, rfl, k1, k2, k3⟩
          case measure => simp only [intOf]; omega
        · have hbeg : beg a x = x := if_neg (by omega)
          rw [hbeg] at HD HT
          by_cases hd : a + t < x
          · have HN := Lib.hid (HD.out (by omega))
            have hdd : decide (a + t < x) = true := decide_eq_true hd
            clear HD HT
            go_wp2_with (at_builtin; refine wpList_append_lies _ rfl _ _ 22 rfl w.heap.size 3 i0 (.int .i64 0) 1 8 Try.underlying22 hi hz0 hz1 hz2 rfl (by decide) _ k _ rfl (HO.out.alloc _).1 ⟨wq.heap.size, 0, none⟩ 1 1 [.int .i64 (-1)] rfl rfl (by intro j u hj; match j, hj with | 0, hj => simp at hj; subst hj; simp [Addr.add]) (by intro u hu; simp at hu; subst hu; rfl) (by omega) (by unfold maxLen; omega) (by omega) (by have := HBQ.out.size; simp; omega) (wq.heap.size + 1) (by simp) ?_; intro g2 cap2 w3 hown3 hgrow3 hat3 hlt3)
            obtain ⟨k1, k2, k3⟩ := HO.out.push HFQ.out HBQ.out HBQ.out.size (-1) HN.out.1 hown3 hgrow3 hat3
            have K2 := k2.congr HN.out.2
            clear hown3 hgrow3 hat3
            go_wp2_with fail
            go_roundw
            case rel => exact ⟨k + 1, g2, cap2, by omega, by congr 1, rfl, k1, K2, k3⟩
            case measure => simp only [intOf]; omega
          · have hd : ¬ a + t < x := by omega
            have HN := Lib.hid (HT.out (by omega))
            have hdd : decide (a + t < x) = false := decide_eq_false hd
            have hwr : IntKind.i64.wrap (x + nd) = x + nd := IntWalk.i64_in _ (by omega)
            have hr0 : (0 : Int) ≤ (r : Int) := by omega
            have hrl : (r : Int) < (m : Int) := by omega
            have fc := HFQ.out.cell r hrm
            have ff := HFQ.out.free r
            rw [← HX.out] at fc
            clear HD HT
            go_wp2_with fail
            have hIF : wr.heap.size ≠ w1.heap.size := by omega
            have hFI : w1.heap.size ≠ wr.heap.size := by omega
            go_region_held3 (fun K => K.cell? ⟨wr.heap.size, 1, none⟩ = some (.int .i64 nd))
              (first | exact i1c | go_keep)
              (first | (go_at_call 62; (refine (idx_any m hm1 (by omega) f _ _ x HXW.out wq.drew (fun j hj => HFQ.out.cell j hj)).mono ?_); rintro e k1 ⟨rfl, rfl⟩; rw [← HRW.out]))
            obtain ⟨w2, hw2⟩ : ∃ q, q = (wq.setCell ⟨w1.heap.size, r, none⟩ (.int .i64 (x + nd))).drew := ⟨_, rfl⟩
            rw [← hw2]
            have HO2 : Hid (OutS w2 w.heap.size w1.heap.size g cap k (svO t m z)) := by rw [hw2]; exact HO.out.set r _
            have HF2 : Hid (FreS w2 w1.heap.size m (svF t m z (k + 1))) := by rw [hw2]; exact (HFQ.out.set r hrm (x + nd)).congr HN.out.2
            have HB2 : Hid (Below w.heap.size w w2) := by rw [hw2]; exact (HBQ.out.setCell hszw _).drew
            clear hw2 fc ff i0c i1c
            go_wp2_with (at_builtin; refine wpList_append_lies _ rfl _ _ 22 rfl w.heap.size 3 i0 (.int .i64 0) 1 8 Try.underlying22 hi hz0 hz1 hz2 rfl (by decide) _ k _ rfl (HO2.out.alloc _).1 ⟨w2.heap.size, 0, none⟩ 1 1 [.int .i64 x] rfl rfl (by intro j u hj; match j, hj with | 0, hj => simp at hj; subst hj; simp [Addr.add]) (by intro u hu; simp at hu; subst hu; rfl) (by omega) (by unfold maxLen; omega) (by omega) (by have := HB2.out.size; simp; omega) (w2.heap.size + 1) (by simp) ?_; intro g2 cap2 w3 hown3 hgrow3 hat3 hlt3)
            obtain ⟨k1, k2, k3⟩ := HO2.out.push HF2.out HB2.out HB2.out.size x HN.out.1 hown3 hgrow3 hat3
            clear hown3 hgrow3 hat3
            go_wp2_with fail
            go_roundw
            case rel => exact ⟨k + 1, g2, cap2, by omega, by congr 1, rfl, k1, k2, k3⟩
            case measure => simp only [intOf]; omega
      · obtain rfl : k = n := by omega
        go_wp2_with fail
        go_ret
        exact ⟨_, rfl, by have h1 := Own.of_own (z := svO t m z) hO.1 (fun j hj => by simp [List.getElem?_range (show j < k by omega)]); rwa [Nat.mul_one] at h1, hbw⟩

end Go.Proofs.Ytkdlhapbbnggoaa
