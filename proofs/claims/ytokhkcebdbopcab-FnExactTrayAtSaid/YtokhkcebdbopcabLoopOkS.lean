/- What the model's LoopOk returns. -/
import Derived.Test.YtokhkcebdbopcabLoopOkI
import Derived.Test.YtokhkcebdbopcabHas
import Derived.BigQuiet
import Derived.Deep.QuietTactic
namespace Go.Proofs.Ytokhkcebdbopcab
open Go.RowKit
set_option linter.unusedVariables false

theorem bgP_take {l : List Int} {k : Nat} (hk : k < l.length) (h : bgP (l.take k)) (h1 : 1 ≤ l.getD k 0) (h2 : ¬ hasI (fun j => l.getD j 0) k (l.getD k 0)) : bgP (l.take (k + 1)) := by
  have e : l.take (k + 1) = l.take k ++ [l.getD k 0] := by
    rw [List.take_add_one, List.getElem?_eq_getElem hk, List.getD_eq_getElem?_getD, List.getElem?_eq_getElem hk]; rfl
  rw [e]
  refine ⟨fun y hy => ?_, ?_⟩
  · rcases List.mem_append.1 hy with hy | hy
    · exact h.1 y hy
    · rw [show y = l.getD k 0 by simpa using hy]; exact h1
  · refine List.nodup_append.2 ⟨h.2, by simp, ?_⟩
    intro y hy z hz e2
    rw [show z = l.getD k 0 by simpa using hz] at e2
    subst e2
    obtain ⟨j, hj, e3⟩ := List.getElem_of_mem hy
    have hj2 : j < k ∧ j < l.length := by
      have hj3 : j < (l.take k).length := hj
      rw [List.length_take] at hj3
      omega
    refine h2 ⟨j, hj2.1, ?_⟩
    rw [List.getElem_take] at e3
    show l.getD j 0 = _
    rw [List.getD_eq_getElem?_getD, List.getElem?_eq_getElem hj2.2]
    exact e3
theorem bgP_low {l : List Int} {k : Nat} (hk : k < l.length) (h1 : ¬ 1 ≤ l.getD k 0) : ¬ bgP l := fun h => h1 (by
  rw [List.getD_eq_getElem?_getD, List.getElem?_eq_getElem hk]
  exact h.1 _ (List.getElem_mem hk))
theorem bgP_twice {l : List Int} {k : Nat} (hk : k < l.length) (h1 : hasI (fun j => l.getD j 0) k (l.getD k 0)) : ¬ bgP l := fun h => by
  obtain ⟨j, hj, e⟩ := h1
  have h2 := h.2
  rw [List.nodup_iff_pairwise_ne, List.pairwise_iff_getElem] at h2
  refine h2 j k (by omega) hk hj ?_
  have e2 : l.getD j 0 = l.getD k 0 := e
  rwa [List.getD_eq_getElem?_getD, List.getElem?_eq_getElem (show j < l.length by omega), List.getD_eq_getElem?_getD, List.getElem?_eq_getElem hk] at e2
theorem ownsL_later {w w' : World} {base : Nat} {e : TypeId} {size : Nat} {v : Value} {n : Nat} {xs : List Value} (h : w.ownsRow base e size v n xs) (hb : Below w.heap.size w w') : w'.ownsRow base e size v n xs :=
  h.kept (grownBy.of_below hb none) (by cases hv : v.ownBlock with
    | none => exact .inl rfl
    | some g => exact .inr (by simp))
theorem dif_snoc {z : Nat → Int} {k : Nat} (h : dif z k) (h2 : ∀ i, i < k → z i ≠ z k) : dif z (k + 1) := fun i j hij hj => by
  by_cases e : j = k
  · subst e; exact h2 i hij
  · exact h i j hij (by omega)

set_option maxRecDepth 100000 in
set_option maxHeartbeats 16000000 in
theorem sLoopOk_any (T : Int) (p1 p2 p3 : Option Addr) (c1 c2 c3 n1 n2 n3 : Nat) (x a2 a3 : Nat → Int) (m2 m3 : Nat → Nat) (y2 y3 : Nat → Nat → Int) (ht : n1 + totN m2 n2 ≤ 1048576) (h2 : n2 ≤ 1048576) (h3 : n3 ≤ 1048576) (hm3 : ∀ i, i < n3 → m3 i ≤ 1048576) (w : World)
    (r : LpRs w p1 p2 p3 c1 c2 c3 n1 n2 n3 x a2 a3 m2 m3 y2 y3) :
    Calls Try.prog 16 #[.agg #[.slice p1 n1 c1, .int .i64 T, .slice p2 n2 c2, .slice p3 n3 c3]] w fun e w' => e = .returned (.bool (decide (lpO T n1 n2 n3 x a2 a3 m2 m3 y2 y3))) ∧ Below w.heap.size w w' := by
  obtain ⟨i0, hi, hz0, hz1, hz2⟩ := info_parts infoIntB
  have ckc := cellsChute
  have ckw := cellsWant
  obtain ⟨R, hR⟩ : ∃ R, R = decide (lpO T n1 n2 n3 x a2 a3 m2 m3 y2 y3) := ⟨_, rfl⟩
  rw [← hR]
  have HRF := Lib.hid (fun (h : ¬ lpO T n1 n2 n3 x a2 a3 m2 m3 y2 y3) => show R = false from by rw [hR]; exact decide_eq_false h)
  have HRT := Lib.hid (fun (h : lpO T n1 n2 n3 x a2 a3 m2 m3 y2 y3) => show R = true from by rw [hR]; exact decide_eq_true h)
  have hll := Lib.hid (fun k (hk : k ≤ n2) => show (lpB x n1 m2 y2 k).length ≤ 1048576 from by
    have := lpB_len (x := x) (n1 := n1) (m2 := m2) (y2 := y2) k
    have := totN_le (nn := m2) hk
    omega)
  have hmb := Lib.hid (fun k (hk : k < n2) => show m2 k ≤ 1048576 from by have := totN_one (nn := m2) hk; omega)
  have hnb := Lib.hid (fun k => nzL_len x k)
  have HM3 := Lib.hid hm3
  have hn1 : n1 ≤ 1048576 := by omega
  clear hR ht hm3
  obtain ⟨r1, -, r2, r3⟩ := r
  obtain ⟨p0, c0, gt, ot, he, -, hft⟩ := r1
  injection he with e1 _ e3
  subst e1 e3
  obtain ⟨p0, c0, gc, oc, sc, he, -, hfc, hrc⟩ := r2
  injection he with e1 _ e3
  subst e1 e3
  obtain ⟨p0, c0, gw, ow, sw, he, -, hfw, hrw⟩ := r3
  injection he with e1 _ e3
  subst e1 e3
  have HT := Lib.hid hft
  have HC := Lib.hid hfc
  have HCR := Lib.hid hrc
  have HW := Lib.hid hfw
  have HWR := Lib.hid hrw
  clear hft hfc hrc hfw hrw
  have hwn : IntKind.i64.wrap ((n1 : Int) - 1) = (n1 : Int) - 1 := IntWalk.i64_in _ (by omega)
  by_cases b1 : (2 : Int) ≤ (n1 : Int) ∧ (n1 : Int) ≤ 60
  rotate_left
  · have HI := Lib.hid (inB_no.2 b1)
    obtain rfl : R = false := HRF.out (fun h => b1 (by have := h.1; omega))
    clear b1
    go_enter Try.func16, Try.ntmps16
    go_wp2_with (go_at_call 53; with_reducible refine (specIn_at HI.out _).mono ?_; rintro e w4 ⟨rfl, rfl⟩)
    go_ret
    exact ⟨rfl, by repeat (first | exact Below.refl _ _ | refine Below.alloc ?_ (by simp <;> omega) _ | refine Below.drew ?_)⟩
  have HI := Lib.hid (inB_iff.2 b1)
  by_cases b2 : 0 ≤ T ∧ T ≤ (n1 : Int) - 1
  rotate_left
  · have HJ := Lib.hid (inB_no.2 b2)
    obtain rfl : R = false := HRF.out (fun h => b2 h.2.1)
    clear b1 b2
    go_enter Try.func16, Try.ntmps16
    go_wp2_with (go_at_call 53; (first | (with_reducible refine (specIn_at HI.out _).mono ?_) | (with_reducible refine (specIn_at HJ.out _).mono ?_)); rintro e w4 ⟨rfl, rfl⟩)
    go_ret
    exact ⟨rfl, by repeat (first | exact Below.refl _ _ | refine Below.alloc ?_ (by simp <;> omega) _ | refine Below.drew ?_)⟩
  have HJ := Lib.hid (inB_iff.2 b2)
  by_cases b3 : n2 ≤ 8
  rotate_left
  · have hd3 : decide ((8 : Int) < (n2 : Int)) = true := decide_eq_true (by omega)
    obtain rfl : R = false := HRF.out (fun h => b3 h.2.2.2.1.1)
    clear b1 b2
    go_enter Try.func16, Try.ntmps16
    go_wp2_with (go_at_call 53; (first | (with_reducible refine (specIn_at HI.out _).mono ?_) | (with_reducible refine (specIn_at HJ.out _).mono ?_)); rintro e w4 ⟨rfl, rfl⟩)
    go_ret
    exact ⟨rfl, by repeat (first | exact Below.refl _ _ | refine Below.alloc ?_ (by simp <;> omega) _ | refine Below.drew ?_)⟩
  have hd3 : decide ((8 : Int) < (n2 : Int)) = false := decide_eq_false (by omega)
  by_cases b4 : n3 ≤ 60
  rotate_left
  · have hd4 : decide ((60 : Int) < (n3 : Int)) = true := decide_eq_true (by omega)
    obtain rfl : R = false := HRF.out (fun h => b4 h.2.2.2.2.1)
    clear b1 b2
    go_enter Try.func16, Try.ntmps16
    go_wp2_with (go_at_call 53; (first | (with_reducible refine (specIn_at HI.out _).mono ?_) | (with_reducible refine (specIn_at HJ.out _).mono ?_)); rintro e w4 ⟨rfl, rfl⟩)
    go_ret
    exact ⟨rfl, by repeat (first | exact Below.refl _ _ | refine Below.alloc ?_ (by simp <;> omega) _ | refine Below.drew ?_)⟩
  have hd4 : decide ((60 : Int) < (n3 : Int)) = false := decide_eq_false (by omega)
  have hn60 : (n1 : Int) ≤ 60 := b1.2
  have HG := Lib.hid (show (2 ≤ n1 ∧ n1 ≤ 60) ∧ (0 ≤ T ∧ T ≤ (n1 : Int) - 1) from ⟨⟨by omega, by omega⟩, b2⟩)
  have hX := fun (W : World) (hW : Below (w.heap.size + 1) (w.alloc (.cells #[.slice p1 n1 c1, .int .i64 T, .slice p2 n2 c2, .slice p3 n3 c3] 32)) W) => (show Hid (Below w.heap.size w W ∧ W.heap[w.heap.size]? = some (.cells #[.slice p1 n1 c1, .int .i64 T, .slice p2 n2 c2, .slice p3 n3 c3] 32 (0, 0)) ∧ w.heap.size + 1 ≤ W.heap.size) from
    ⟨((Below.refl _ _).alloc (Nat.le_refl _) _).trans (hW.mono (by omega)), (hW.block w.heap.size (by omega)).trans (heap_new _ _ _ rfl), by have := hW.size; simp at this; omega⟩)
  obtain ⟨base, hbase⟩ : ∃ base, base = w.alloc (.cells #[.slice p1 n1 c1, .int .i64 T, .slice p2 n2 c2, .slice p3 n3 c3] 32) := ⟨_, rfl⟩
  rw [← hbase] at hX
  have HX := Lib.hid hX
  have HBS := Lib.hid hbase
  clear hX hbase b1 b2
  go_enter Try.func16, Try.ntmps16
  go_wp2_with (go_at_call 53; (first | (with_reducible refine (specIn_at HI.out _).mono ?_) | (with_reducible refine (specIn_at HJ.out _).mono ?_)); rintro e w4 ⟨rfl, rfl⟩)
  clear HI HJ hd3 hd4
  go_loopw [4, 5] (fun v iv wr => ∃ (k : Nat) (po : Option Addr) (co : Nat) (l : List Int), k ≤ n1 ∧ iv = .int .i64 (k : Int) ∧ v = .slice po l.length co ∧ Hid (wr.ownsRow (w.heap.size + 1) 3 1 (.slice po l.length co) l.length (l.map (.int .i64))) ∧ Hid (l = nzL x k) ∧ Hid (Below (w.heap.size + 1) base wr)) (fun _ iv _ => n1 - (intOf iv).toNat)
  case atStart => exact ⟨0, some ⟨w.heap.size + 1, 0, none⟩, 0, [], by omega, rfl, rfl, ⟨rfl, .inr ⟨w.heap.size + 1, 0, #[], rfl, Nat.le_refl _, heap_new _ _ _ (by simp), Nat.le_refl _, by decide, by simp, by simp⟩⟩, rfl, by rw [HBS.out]; exact (Below.refl _ _).alloc (by first | exact Nat.le_refl _ | omega | (simp; done) | (simp; omega)) _⟩
  case round =>
    obtain ⟨k, po, co, l, hk, rfl, rfl, HOW, HL, HB⟩ := hrel
    obtain ⟨hbw, hxb, hsz⟩ := (HX.out _ HB.out).out
    obtain ⟨b0, b1, b2, b3, -, -, -, -⟩ := cells4 hxb
    have HBW := Lib.hid hbw
    have hl20 : l.length ≤ 1048576 := by rw [HL.out]; have := hnb.out k; omega
    clear hbw hxb
    by_cases hkn : k < n1
    · obtain ⟨rfl, -, hg⟩ := HT.out.1 (by omega)
      have a0 := (HBW.out.cell (p := ⟨gt, ot + k, none⟩) hg).trans (HT.out.int k hkn)
      have hk0 : (0 : Int) ≤ (k : Int) := by omega
      have hkl : (k : Int) < (n1 : Int) := by omega
      have hwk : IntKind.i64.wrap ((k : Int) + 1) = (k : Int) + 1 := IntWalk.i64_in _ (by omega)
      by_cases e : x k = 0
      · have HN := Lib.hid (HL.out.trans (nzL_zero e).symm)
        rw [e] at a0
        clear e HL
        go_wp2_with fail
        go_roundw
        case rel => exact ⟨k + 1, po, co, l, by omega, by congr 1, rfl, HOW.out, HN.out, HB.out⟩
        case measure => simp only [intOf]; omega
      · have HN := Lib.hid (show l ++ [x k] = nzL x (k + 1) by rw [nzL_one e, HL.out])
        have hne : (x k != 0) = true := by simpa using e
        obtain ⟨y, hy⟩ : ∃ y, y = x k := ⟨_, rfl⟩
        rw [← hy] at a0 hne HN
        have HXL := Lib.hid (show (l ++ [y]).map (Value.int .i64) = l.map (.int .i64) ++ [.int .i64 y] by rw [List.map_append]; rfl)
        clear e hy HL
        go_wp2_with (at_builtin; refine wpList_append_own _ rfl _ _ 22 rfl (w.heap.size + 1) 3 i0 (.int .i64 0) 1 8 Try.underlying22 hi hz0 hz1 hz2 rfl (by decide) _ l.length _ rfl (HOW.out.alloc _) ⟨wr.heap.size, 0, none⟩ 1 1 [.int .i64 y] rfl rfl (by intro j u hj; match j, hj with | 0, hj => simp at hj; subst hj; simp [Addr.add]) (by intro u hu; simp at hu; rcases hu with rfl; rfl) (by unfold maxLen; omega) (by omega) (by simp; omega) ?_; intro v' w3 hown3 hgrow3 _)
        go_roundw
        case rel =>
          obtain ⟨g4, c4, rfl⟩ := ownsRow_succ hown3
          exact ⟨k + 1, some ⟨g4, 0, none⟩, c4, l ++ [y], by omega, by congr 1, by rw [List.length_append]; rfl, by rw [HXL.out, List.length_append]; exact hown3, HN.out, Below.grown (HB.out.alloc (by omega) _) hgrow3 (by simp; omega) (fun j hj => (HOW.out.lt j hj).1)⟩
        case measure => simp only [intOf]; omega
    · obtain rfl : k = n1 := by omega
      obtain ⟨wA, rfl⟩ : ∃ wA, wA = wr := ⟨_, rfl⟩
      go_wp2_with fail
      go_loopw [4, 6] (fun v iv wr => ∃ (i : Nat) (po : Option Addr) (co : Nat) (l : List Int), i ≤ n2 ∧ iv = .int .i64 (i : Int) ∧ v = .slice po l.length co ∧ Hid (wr.ownsRow (w.heap.size + 1) 3 1 (.slice po l.length co) l.length (l.map (.int .i64))) ∧ Hid (l = lpB x k m2 y2 i) ∧ Hid (∀ j, j < i → chO a2 m2 (k : Int) j) ∧ Hid (dif (fun j => a2 (j * 3)) i) ∧ Hid (Below (w.heap.size + 1) base wr)) (fun _ iv _ => n2 - (intOf iv).toNat)
      case atStart => exact ⟨0, po, co, l, by omega, rfl, rfl, HOW.out, HL.out, fun j hj => absurd hj (by omega), fun i j _ hj => absurd hj (by omega), HB.out⟩
      case round =>
        clear HOW HL HB HBW b0 b1 b2 b3 hl20
        obtain ⟨i, po, co, l, hi2, rfl, rfl, HOW, HL, HP, HD, HB⟩ := hrel
        obtain ⟨hbw, hxb, hsz⟩ := (HX.out _ HB.out).out
        obtain ⟨b0, b1, b2, b3, -, -, -, -⟩ := cells4 hxb
        have HBW := Lib.hid hbw
        have hl20 : l.length ≤ 1048576 := by rw [HL.out]; exact hll.out i hi2
        by_cases hin : i < n2
        · obtain ⟨rfl, -, hgc⟩ := HC.out.1 (by omega)
          obtain ⟨hrd, sa, scc, se⟩ := HCR.out i hin
          obtain ⟨u0, u1, u2⟩ := atChute HC.out hin hbw (Nat.le_refl _)
          rw [se] at u2 hrd
          obtain ⟨p5, c5, g5, o5, e5, hc5, hf5⟩ := hrd
          injection e5 with e51 _ e53
          subst e53
          have hi0 : (0 : Int) ≤ (i : Int) := by omega
          have hil : (i : Int) < (n2 : Int) := by omega
          have hwi : IntKind.i64.wrap ((i : Int) + 1) = (i : Int) + 1 := IntWalk.i64_in _ (by omega)
          have HCO := Lib.hid (show chO a2 m2 (k : Int) i ↔ (0 ≤ a2 (i * 3) ∧ a2 (i * 3) ≤ (k : Int) - 1) ∧ (0 ≤ a2 (i * 3 + 1) ∧ a2 (i * 3 + 1) ≤ 40) ∧ (m2 i : Int) ≤ a2 (i * 3 + 1) from Iff.rfl)
          have HNO := Lib.hid (fun (hh : ¬ chO a2 m2 (k : Int) i) => HRF.out (fun h => hh (h.2.2.2.1.2.1 i hin)))
          have HND := Lib.hid (fun (j : Nat) (hj : j < i) (hh : a2 (j * 3) = a2 (i * 3)) => HRF.out (fun h => h.2.2.2.1.2.2 j i hj hin hh))
          have hsrc : ∀ (W : World), Below w.heap.size w W → ∀ (j : Nat) (u : Value), ((List.range (m2 i)).map (fun j => Value.int .i64 (y2 i j)))[j]? = some u → W.cell? (sa.add j) = some u := fun W hW j u hu => by
            have hj2 : j < m2 i := by
              rcases Nat.lt_or_ge j (m2 i) with h9 | h9
              · exact h9
              · rw [List.getElem?_eq_none (by simp; omega)] at hu; cases hu
            rw [List.getElem?_map, List.getElem?_range hj2] at hu
            simp at hu
            subst hu
            have h7 := hf5.1 (by omega)
            rw [← e51] at h7
            obtain ⟨h7, -, h8⟩ := h7
            injection h7 with h7
            subst h7
            rw [Go.WideShapes.add_plain]
            exact (hW.cell (p := ⟨g5, o5 + j, none⟩) h8).trans (hf5.2 j hj2)
          have HSRC := Lib.hid hsrc
          have HLEN := Lib.hid (show ((List.range (m2 i)).map (fun j => Value.int .i64 (y2 i j))).length = m2 i * 1 by simp)
          have HONE : Hid (∀ u ∈ (List.range (m2 i)).map (fun j => Value.int .i64 (y2 i j)), u.oneCell' = true) := by
            intro u hu
            obtain ⟨j, -, rfl⟩ := List.mem_map.1 hu
            rfl
          have HXL := Lib.hid (show (l ++ (List.range (m2 i)).map (y2 i)).map (Value.int .i64) = l.map (.int .i64) ++ (List.range (m2 i)).map (fun j => Value.int .i64 (y2 i j)) by rw [List.map_append, List.map_map]; rfl)
          have HL2 := Lib.hid (show l ++ (List.range (m2 i)).map (y2 i) = lpB x k m2 y2 (i + 1) from by rw [HL.out]; rfl)
          have HLL := Lib.hid (show (l ++ (List.range (m2 i)).map (y2 i)).length = l.length + m2 i by simp)
          have hm5 := hmb.out i hin
          obtain ⟨news, hnews⟩ : ∃ news, news = (List.range (m2 i)).map (fun j => Value.int .i64 (y2 i j)) := ⟨_, rfl⟩
          obtain ⟨nl, hnl⟩ : ∃ nl, nl = l ++ (List.range (m2 i)).map (y2 i) := ⟨_, rfl⟩
          rw [← hnews] at HSRC HLEN HONE HXL
          rw [← hnl] at HXL HL2 HLL
          obtain ⟨m, hmm⟩ : ∃ m, m = m2 i := ⟨_, rfl⟩
          rw [← hmm] at u2 HLEN HLL hm5 HCO
          obtain ⟨v0, hv0⟩ : ∃ v, v = a2 (i * 3) := ⟨_, rfl⟩
          obtain ⟨v1, hv1⟩ : ∃ v, v = a2 (i * 3 + 1) := ⟨_, rfl⟩
          rw [← hv0] at u0 HCO HND
          rw [← hv1] at u1 HCO
          have HV0 := Lib.hid hv0
          clear hf5 hsrc hnews hnl hmm hv0 hv1 e51 se HL hbw hxb
          by_cases d1 : 0 ≤ v0 ∧ v0 ≤ (k : Int) - 1
          rotate_left
          · have HI := Lib.hid (inB_no.2 d1)
            obtain rfl := HNO.out (fun h => d1 (HCO.out.1 h).1)
            clear d1 HCO HNO HND
            go_wp2_with (go_at_call 53; with_reducible refine (specIn_at HI.out _).mono ?_; rintro e w4 ⟨rfl, rfl⟩)
            go_ret
            exact ⟨rfl, HBW.out.alloc (by omega) _⟩
          have HI := Lib.hid (inB_iff.2 d1)
          by_cases d2 : 0 ≤ v1 ∧ v1 ≤ 40
          rotate_left
          · have HJ := Lib.hid (inB_no.2 d2)
            obtain rfl := HNO.out (fun h => d2 (HCO.out.1 h).2.1)
            clear d1 d2 HCO HNO HND
            go_wp2_with (go_at_call 53; (first | (with_reducible refine (specIn_at HI.out _).mono ?_) | (with_reducible refine (specIn_at HJ.out _).mono ?_)); rintro e w4 ⟨rfl, rfl⟩)
            go_ret
            exact ⟨rfl, HBW.out.alloc (by omega) _⟩
          have HJ := Lib.hid (inB_iff.2 d2)
          by_cases d3 : (m : Int) ≤ v1
          rotate_left
          · have hd5 : decide (v1 < (m : Int)) = true := decide_eq_true (by omega)
            obtain rfl := HNO.out (fun h => d3 (HCO.out.1 h).2.2)
            clear d1 d2 d3 HCO HNO HND
            go_wp2_with (go_at_call 53; (first | (with_reducible refine (specIn_at HI.out _).mono ?_) | (with_reducible refine (specIn_at HJ.out _).mono ?_)); rintro e w4 ⟨rfl, rfl⟩)
            go_ret
            exact ⟨rfl, HBW.out.alloc (by omega) _⟩
          have hd5 : decide (v1 < (m : Int)) = false := decide_eq_false (by omega)
          have HCK := Lib.hid (HCO.out.2 ⟨d1, d2, d3⟩)
          clear d1 d2 d3 HCO HNO
          obtain ⟨wC, hwC⟩ : ∃ wC, wC = wr.alloc (.cells #[.int .i64 v0, .int .i64 v1, .slice (some sa) m scc] 64) := ⟨_, rfl⟩
          have XC : Hid (wC.heap[wr.heap.size]? = some (.cells #[.int .i64 v0, .int .i64 v1, .slice (some sa) m scc] 64 (0, 0))) := by rw [hwC]; exact heap_new _ _ _ rfl
          have hsC : wr.heap.size < wC.heap.size := by rw [hwC]; simp
          have HBC : Hid (Below (w.heap.size + 1) base wC) := by rw [hwC]; exact HB.out.alloc hsz _
          have HOC : Hid (wC.ownsRow (w.heap.size + 1) 3 1 (.slice po l.length co) l.length (l.map (.int .i64))) := by rw [hwC]; exact HOW.out.alloc _
          have HWC := Lib.hid hwC
          obtain ⟨wD, rfl⟩ : ∃ wD, wD = wr := ⟨_, rfl⟩
          clear hwC
          go_wp2_with (go_at_call 53; (first | (with_reducible refine (specIn_at HI.out _).mono ?_) | (with_reducible refine (specIn_at HJ.out _).mono ?_)); rintro e w4 ⟨rfl, rfl⟩)
          rw [← HWC.out]
          clear b0 b1 b2 b3 u0 u1 u2 hd5 HI HJ
          go_loopw [8] (fun jv wr => ∃ j : Nat, j ≤ i ∧ jv = .int .i64 (j : Int) ∧ Hid (∀ q, q < j → a2 (q * 3) ≠ v0) ∧ Hid (Below wC.heap.size wC wr)) (fun jv _ => i - (intOf jv).toNat)
          case atStart => exact ⟨0, by omega, rfl, fun q hq => absurd hq (by omega), Below.refl _ _⟩
          case round =>
            obtain ⟨j, hj, rfl, HQ, HBJ⟩ := hrel
            have hbj := HBC.out.trans (HBJ.out.mono (by omega))
            obtain ⟨hbw, hxb, hszj⟩ := (HX.out _ hbj).out
            obtain ⟨b0, b1, b2, b3, -, -, -, -⟩ := cells4 hxb
            obtain ⟨z0, z1, z2, -, -, -⟩ := cellsC3 ((HBJ.out.block _ hsC).trans XC.out)
            have HBW2 := Lib.hid hbw
            have hj0 : (0 : Int) ≤ (j : Int) := by omega
            by_cases hji : j < i
            · obtain ⟨u0, -, -⟩ := atChute HC.out (show j < n2 by omega) hbw (Nat.le_refl _)
              have hjl : (j : Int) < (i : Int) := by omega
              have hjn : (j : Int) < (n2 : Int) := by omega
              have hwj : IntKind.i64.wrap ((j : Int) + 1) = (j : Int) + 1 := IntWalk.i64_in _ (by omega)
              clear hbw hxb hbj
              by_cases e : a2 (j * 3) = v0
              · obtain rfl := HND.out j hji e
                have hee : (a2 (j * 3) == v0) = true := by simpa using e
                clear e
                go_wp2_with fail
                go_quiet (fail)
                go_wp2_with fail
                go_ret
                exact ⟨rfl, below_drewN' HBW2.out _⟩
              · have hee : (a2 (j * 3) == v0) = false := by simpa using e
                have HE := Lib.hid e
                clear e
                go_wp2_with fail
                go_quiet (fail)
                go_wp2_with fail
                go_roundw
                case rel => exact ⟨j + 1, by omega, by congr 1, fun q hq => by
                  by_cases e2 : q = j
                  · subst e2; exact HE.out
                  · exact HQ.out q (by omega), below_drewN' HBJ.out _⟩
                case measure => simp only [intOf]; omega
            · obtain rfl : j = i := by omega
              have HOJ := Lib.hid (ownsL_later HOC.out HBJ.out)
              have HBB := Lib.hid hbj
              have HDD := Lib.hid (dif_snoc HD.out (fun q hq => by show a2 (q * 3) ≠ a2 (j * 3); rw [← HV0.out]; exact HQ.out q hq))
              have hsrc2 := HSRC.out _ hbw
              clear hbw hxb hbj b0 b1 b2 b3
              go_wp2_with (at_builtin; refine wpList_append_own _ rfl _ _ 22 rfl (w.heap.size + 1) 3 i0 (.int .i64 0) 1 8 Try.underlying22 hi hz0 hz1 hz2 rfl (by decide) _ l.length _ rfl HOJ.out sa m scc news rfl HLEN.out hsrc2 HONE.out (by unfold maxLen; omega) (by omega) (by omega) ?_; intro v' w3 hown3 hgrow3 hnil3)
              go_roundw
              case rel =>
                obtain ⟨pz, cz, rfl⟩ : ∃ pz cz, v' = .slice pz (l.length + m) cz := by
                  rcases hown3.2 with ⟨rfl, h0⟩ | ⟨gz, cz, _, rfl, -⟩
                  · exact ⟨none, 0, by rw [h0]⟩
                  · exact ⟨_, _, rfl⟩
                refine ⟨j + 1, pz, cz, nl, by omega, by congr 1, by rw [HLL.out], by rw [HXL.out, HLL.out]; exact hown3, HL2.out, fun q hq => ?_, HDD.out, ?_⟩
                · by_cases e2 : q = j
                  · subst e2; exact HCK.out
                  · exact HP.out q (by omega)
                · exact Below.grown HBB.out hgrow3 (by omega) (fun q hq => (HOJ.out.lt q hq).1)
              case measure => simp only [intOf]; omega
        · obtain rfl : i = n2 := by omega
          obtain ⟨wB, rfl⟩ : ∃ wB, wB = wr := ⟨_, rfl⟩
          have HCP := Lib.hid (show chP a2 m2 i (k : Int) from ⟨by assumption, HP.out, HD.out⟩)
          obtain ⟨L, hL⟩ : ∃ L, L = l.length := ⟨_, rfl⟩
          obtain ⟨gB, hfB⟩ := flatI_of_list HOW.out
          have HFB := Lib.hid ((hfB.wide (Nat.zero_le _) (Nat.le_refl _)))
          have HLE := Lib.hid HL.out
          have HCO := Lib.hid (show l.length ≤ co from by
            rcases HOW.out.2 with ⟨e1, e2⟩ | ⟨gz, cz, cur, e1, -, -, e2, -⟩
            · omega
            · injection e1 with _ _ e1; omega)
          have HBB := Lib.hid HB.out
          rw [← hL] at HFB hl20 HCO ⊢
          have HLL := Lib.hid hL
          clear HOW HL HB HP HD hfB hL
          go_wp2_with fail
          go_loopw [9] (fun iv wr => ∃ j : Nat, j ≤ L ∧ iv = .int .i64 (j : Int) ∧ Hid (bgP (l.take j)) ∧ Hid (Below wB.heap.size wB wr)) (fun iv _ => L - (intOf iv).toNat)
          case atStart => exact ⟨0, by omega, rfl, ⟨fun y hy => by simp at hy, by simp⟩, Below.refl _ _⟩
          case round =>
            clear b0 b1 b2 b3
            obtain ⟨j, hj, rfl, HBG, HBJ⟩ := hrel
            have hbj := HBB.out.trans (HBJ.out.mono hsz)
            obtain ⟨hbw, hxb, hszj⟩ := (HX.out _ hbj).out
            obtain ⟨b0, b1, b2, b3, -, -, -, -⟩ := cells4 hxb
            have HBW2 := Lib.hid hbw
            have hj0 : (0 : Int) ≤ (j : Int) := by omega
            clear hbw hxb
            by_cases hjL : j < L
            · obtain ⟨rfl, -, hgB⟩ := HFB.out.1 (by omega)
              have hjl : (j : Int) < (L : Int) := by omega
              have hjc : L ≤ co ∨ True := .inr trivial
              have a0 := (HBJ.out.cell (p := ⟨gB, 0 + j, none⟩) hgB).trans (HFB.out.int j hjL)
              rw [Nat.zero_add] at a0
              have hwj : IntKind.i64.wrap ((j : Int) + 1) = (j : Int) + 1 := IntWalk.i64_in _ (by omega)
              have hjco : j ≤ co := by have := HCO.out; omega
              have hjcoI : (j : Int) ≤ (co : Int) := by omega
              have HHA : Hid (∀ W, Below wB.heap.size wB W → ∀ y : Int, Calls Try.prog 54 #[.slice (some ⟨gB, 0, none⟩) j co, .int .i64 y] W fun e w' => e = .returned (.bool (decide (hasI (fun q => l.getD q 0) j y))) ∧ w' = W) := fun W hW y => (sHas_any j (by unfold maxLen; omega) (fun q => l.getD q 0) (some ⟨gB, 0, none⟩) co gB 0 y W (((HFB.out.below hW (Nat.le_refl _)).wide (Nat.zero_le _) hW.size).less (by omega))).mono (fun _ _ ⟨h1, h2⟩ => ⟨h1, h2.symm⟩)
              have HJL := Lib.hid (show j < l.length by rw [← HLL.out]; exact hjL)
              have HLOW := Lib.hid (fun (h : ¬ 1 ≤ l.getD j 0) => HRF.out (fun hh => bgP_low HJL.out h (by rw [HLE.out]; exact hh.2.2.1)))
              have HTWI := Lib.hid (fun (h : hasI (fun q => l.getD q 0) j (l.getD j 0)) => HRF.out (fun hh => bgP_twice HJL.out h (by rw [HLE.out]; exact hh.2.2.1)))
              have HSTP := Lib.hid (fun (h1 : 1 ≤ l.getD j 0) (h2 : ¬ hasI (fun q => l.getD q 0) j (l.getD j 0)) => bgP_take HJL.out HBG.out h1 h2)
              obtain ⟨y, hy⟩ : ∃ y, y = l.getD j 0 := ⟨_, rfl⟩
              have a1 : wr.cell? ⟨gB, j, none⟩ = some (.int .i64 y) := by rw [hy]; exact a0
              rw [← hy] at HLOW HTWI HSTP
              clear hy a0 hbj
              by_cases d1 : 1 ≤ y
              rotate_left
              · obtain rfl := HLOW.out d1
                have hd1 : decide (y < 1) = true := decide_eq_true (by omega)
                clear HLOW HTWI HSTP d1
                go_wp2_with fail
                go_quiet (fail)
                go_wp2_with fail
                go_ret
                exact ⟨rfl, below_drewN' HBW2.out _⟩
              have hd1 : decide (y < 1) = false := decide_eq_false (by omega)
              have HHY := Lib.hid (fun W hW => HHA.out W hW y)
              by_cases d2 : hasI (fun q => l.getD q 0) j y
              · obtain rfl := HTWI.out d2
                rw [decide_eq_true d2] at HHY
                clear HLOW HTWI HSTP d1 d2 HHA
                go_wp2_with fail
                go_quiet ((go_at_call 54; exact Calls.quiet_of_same (HHY.out _ (by first | exact HBJ.out | exact below_drewN' HBJ.out _))))
                go_wp2_with fail
                go_ret
                exact ⟨rfl, below_drewN' HBW2.out _⟩
              · have HNX := Lib.hid (HSTP.out d1 d2)
                rw [decide_eq_false d2] at HHY
                clear HLOW HTWI HSTP d1 d2 HHA
                go_wp2_with fail
                go_quiet ((go_at_call 54; exact Calls.quiet_of_same (HHY.out _ (by first | exact HBJ.out | exact below_drewN' HBJ.out _))))
                go_wp2_with fail
                go_roundw
                case rel => exact ⟨j + 1, by omega, by congr 1, HNX.out, below_drewN' HBJ.out _⟩
                case measure => simp only [intOf]; omega
            · obtain rfl : j = L := by omega
              have HBP := Lib.hid (show bgP (lpB x k m2 y2 i) from by rw [← HLE.out]; have := HBG.out; rwa [List.take_of_length_le (by rw [← HLL.out]; exact Nat.le_refl _)] at this)
              obtain ⟨wE, rfl⟩ : ∃ wE, wE = wr := ⟨_, rfl⟩
              have HBE := Lib.hid hbj
              clear hbj HBG HBJ HFB HLE HLL
              go_wp2_with fail
              go_loopw [10] (fun iv wr => ∃ q : Nat, q ≤ n3 ∧ iv = .int .i64 (q : Int) ∧ Hid (∀ u, u < q → asc (y3 u) (i : Int) (m3 u)) ∧ Hid (∀ u, u < q → 1 ≤ a3 (u * 2)) ∧ Hid (dif (fun u => a3 (u * 2)) q) ∧ Hid (Below wE.heap.size wE wr)) (fun iv _ => n3 - (intOf iv).toNat)
              case atStart => exact ⟨0, by omega, rfl, fun u hu => absurd hu (by omega), fun u hu => absurd hu (by omega), fun u v _ hv => absurd hv (by omega), Below.refl _ _⟩
              case round =>
                clear b0 b1 b2 b3 HBW2
                obtain ⟨q, hq, rfl, HA, HG1, HDF, HBQ⟩ := hrel
                have hbq := HBE.out.trans (HBQ.out.mono hszj)
                obtain ⟨hbw, hxb, hszq⟩ := (HX.out _ hbq).out
                obtain ⟨b0, b1, b2, b3, -, -, -, -⟩ := cells4 hxb
                have HBW3 := Lib.hid hbw
                have hq0 : (0 : Int) ≤ (q : Int) := by omega
                by_cases hqn : q < n3
                · obtain ⟨rfl, -, hgw⟩ := HW.out.1 (by omega)
                  obtain ⟨hrd, sa, scc, se⟩ := HWR.out q hqn
                  obtain ⟨u0, u1⟩ := atWant HW.out hqn hbw (Nat.le_refl _)
                  rw [se] at u1 hrd
                  obtain ⟨p5, c5, g5, o5, e5, hc5, hf5⟩ := hrd
                  injection e5 with e51 _ e53
                  subst e53
                  have hql : (q : Int) < (n3 : Int) := by omega
                  have hwq : IntKind.i64.wrap ((q : Int) + 1) = (q : Int) + 1 := IntWalk.i64_in _ (by omega)
                  have hm5 := HM3.out q hqn
                  have HLOW := Lib.hid (fun (h : ¬ 1 ≤ a3 (q * 2)) => HRF.out (fun hh => h (hh.2.2.2.2.2.2.1 q hqn)))
                  have HTWI := Lib.hid (fun (u : Nat) (hu : u < q) (h : a3 (u * 2) = a3 (q * 2)) => HRF.out (fun hh => hh.2.2.2.2.2.2.2 u q hu hqn h))
                  have HNAS := Lib.hid (fun (h : ¬ asc (y3 q) (i : Int) (m3 q)) => HRF.out (fun hh => h (hh.2.2.2.2.2.1 q hqn)))
                  obtain ⟨m, hmm⟩ : ∃ m, m = m3 q := ⟨_, rfl⟩
                  obtain ⟨z, hz⟩ : ∃ z, z = y3 q := ⟨_, rfl⟩
                  obtain ⟨v0, hv0⟩ : ∃ v, v = a3 (q * 2) := ⟨_, rfl⟩
                  have HMM := Lib.hid hmm
                  have HZZ := Lib.hid hz
                  have HV0 := Lib.hid hv0
                  rw [← hmm] at u1 hf5 hm5 HNAS
                  rw [← hz] at hf5 HNAS
                  rw [← hv0] at u0 HLOW HTWI
                  have HF5 := Lib.hid hf5
                  have HE51 := Lib.hid e51
                  clear hmm hz hv0 hf5 se hbw hxb e51
                  by_cases d1 : 1 ≤ v0
                  rotate_left
                  · obtain rfl := HLOW.out d1
                    have hd1 : decide (v0 < 1) = true := decide_eq_true (by omega)
                    clear HLOW HTWI HNAS d1
                    go_wp2_with fail
                    go_ret
                    exact ⟨rfl, HBW3.out.alloc (by omega) _⟩
                  have hd1 : decide (v0 < 1) = false := decide_eq_false (by omega)
                  have HD1 := Lib.hid d1
                  clear d1 HLOW
                  obtain ⟨wF, hwF⟩ : ∃ wF, wF = wr.alloc (.cells #[.int .i64 v0, .slice (some sa) m scc] 66) := ⟨_, rfl⟩
                  have XF : Hid (wF.heap[wr.heap.size]? = some (.cells #[.int .i64 v0, .slice (some sa) m scc] 66 (0, 0))) := by rw [hwF]; exact heap_new _ _ _ rfl
                  have hsF : wr.heap.size < wF.heap.size := by rw [hwF]; simp
                  have HBF : Hid (Below (w.heap.size + 1) base wF) := by rw [hwF]; exact hbq.alloc hszq _
                  have HEF : Hid (Below wE.heap.size wE wF) := by rw [hwF]; exact HBQ.out.alloc HBQ.out.size _
                  have HWF := Lib.hid hwF
                  obtain ⟨wG, rfl⟩ : ∃ wG, wG = wr := ⟨_, rfl⟩
                  clear hwF hbq
                  go_wp2_with fail
                  rw [← HWF.out]
                  clear b0 b1 b2 b3 u0 u1 hd1
                  go_loopw [12] (fun jv wr => ∃ t : Nat, t ≤ q ∧ jv = .int .i64 (t : Int) ∧ Hid (∀ u, u < t → a3 (u * 2) ≠ v0) ∧ Hid (Below wF.heap.size wF wr)) (fun jv _ => q - (intOf jv).toNat)
                  case atStart => exact ⟨0, by omega, rfl, fun u hu => absurd hu (by omega), Below.refl _ _⟩
                  case round =>
                    obtain ⟨t, ht, rfl, HQ, HBT⟩ := hrel
                    have hbt := HBF.out.trans (HBT.out.mono (by omega))
                    obtain ⟨hbw, hxb, hszt⟩ := (HX.out _ hbt).out
                    obtain ⟨b0, b1, b2, b3, -, -, -, -⟩ := cells4 hxb
                    have hXF2 := (HBT.out.block _ hsF).trans XF.out
                    have z0 : wr.cell? ⟨wG.heap.size, 0, none⟩ = some (.int .i64 v0) := by simp [World.cell?, hXF2]
                    have z1 : wr.cell? ⟨wG.heap.size, 1, none⟩ = some (.slice (some sa) m scc) := by simp [World.cell?, hXF2]
                    have HBW4 := Lib.hid hbw
                    have ht0 : (0 : Int) ≤ (t : Int) := by omega
                    by_cases htq : t < q
                    · obtain ⟨u0, -⟩ := atWant HW.out (show t < n3 by omega) hbw (Nat.le_refl _)
                      have htl : (t : Int) < (q : Int) := by omega
                      have htn : (t : Int) < (n3 : Int) := by omega
                      have hwt : IntKind.i64.wrap ((t : Int) + 1) = (t : Int) + 1 := IntWalk.i64_in _ (by omega)
                      clear hbw hxb hbt hXF2
                      by_cases e : a3 (t * 2) = v0
                      · obtain rfl := HTWI.out t htq e
                        have hee : (a3 (t * 2) == v0) = true := by simpa using e
                        clear e
                        go_wp2_with fail
                        go_quiet (fail)
                        go_wp2_with fail
                        go_ret
                        exact ⟨rfl, below_drewN' HBW4.out _⟩
                      · have hee : (a3 (t * 2) == v0) = false := by simpa using e
                        have HE := Lib.hid e
                        clear e
                        go_wp2_with fail
                        go_quiet (fail)
                        go_wp2_with fail
                        go_roundw
                        case rel => exact ⟨t + 1, by omega, by congr 1, fun u hu => by
                          by_cases e2 : u = t
                          · subst e2; exact HE.out
                          · exact HQ.out u (by omega), below_drewN' HBT.out _⟩
                        case measure => simp only [intOf]; omega
                    · obtain rfl : t = q := by omega
                      have HDD := Lib.hid (dif_snoc HDF.out (fun u hu => by show a3 (u * 2) ≠ a3 (t * 2); rw [← HV0.out]; exact HQ.out u hu))
                      obtain ⟨wH, rfl⟩ : ∃ wH, wH = wr := ⟨_, rfl⟩
                      have HXH := Lib.hid hXF2
                      have HBH := Lib.hid hbt
                      have hsH : wG.heap.size < wH.heap.size := Nat.lt_of_lt_of_le hsF HBT.out.size
                      clear hbw hxb hbt hXF2 b0 b1 b2 b3 z0 z1 HTWI
                      go_wp2_with fail
                      go_loopw [13] (fun jv wr => ∃ s : Nat, s ≤ m ∧ jv = .int .i64 (s : Int) ∧ Hid (asc z (i : Int) s) ∧ Hid (Below wH.heap.size wH wr)) (fun jv _ => m - (intOf jv).toNat)
                      case atStart => exact ⟨0, by omega, rfl, fun u hu => absurd hu (by omega), Below.refl _ _⟩
                      case round =>
                        obtain ⟨s, hs, rfl, HAS, HBS2⟩ := hrel
                        have hbs := HBH.out.trans (HBS2.out.mono (by omega))
                        obtain ⟨hbw, hxb, hszs⟩ := (HX.out _ hbs).out
                        obtain ⟨b0, b1, b2, b3, -, -, -, -⟩ := cells4 hxb
                        have hXF3 := (HBS2.out.block _ hsH).trans HXH.out
                        have z0 : wr.cell? ⟨wG.heap.size, 0, none⟩ = some (.int .i64 v0) := by simp [World.cell?, hXF3]
                        have z1 : wr.cell? ⟨wG.heap.size, 1, none⟩ = some (.slice (some sa) m scc) := by simp [World.cell?, hXF3]
                        have HBW5 := Lib.hid hbw
                        have hs0 : (0 : Int) ≤ (s : Int) := by omega
                        by_cases hsm : s < m
                        · have h7 := HF5.out.1 (by omega)
                          rw [← HE51.out] at h7
                          obtain ⟨h7, -, h8⟩ := h7
                          injection h7 with h7
                          have c0 := (hbw.cell (p := ⟨g5, o5 + s, none⟩) h8).trans (HF5.out.int s hsm)
                          have c1 : 0 < s → wr.cell? ⟨g5, o5 + (s - 1), none⟩ = some (.int .i64 (z (s - 1))) := fun h0 => (hbw.cell (p := ⟨g5, o5 + (s - 1), none⟩) h8).trans (HF5.out.int (s - 1) (by omega))
                          have hsl : (s : Int) < (m : Int) := by omega
                          have hws : IntKind.i64.wrap ((s : Int) + 1) = (s : Int) + 1 := IntWalk.i64_in _ (by omega)
                          have hwi2 : IntKind.i64.wrap ((i : Int) - 1) = (i : Int) - 1 := IntWalk.i64_in _ (by omega)
                          have hlb := lea_bound HAS.out (show (0 : Int) ≤ (i : Int) by omega)
                          have HYS := Lib.hid (fun (h : lea z s ≤ z s ∧ z s ≤ (i : Int) - 1) (u : Nat) (hu : u < s + 1) => show lea z u ≤ z u ∧ z u ≤ (i : Int) - 1 from by
                            by_cases e : u = s
                            · subst e; exact h
                            · exact HAS.out u (by omega))
                          have HNS := Lib.hid (fun (h : ¬ (lea z s ≤ z s ∧ z s ≤ (i : Int) - 1)) => HNAS.out (fun hh => h (hh s hsm)))
                          have HL0 := Lib.hid (show s = 0 → lea z s = 0 from fun h => by subst h; rfl)
                          have HL1 := Lib.hid (show 0 < s → lea z s = z (s - 1) + 1 from fun h => by unfold lea; rw [if_neg (by omega)])
                          obtain ⟨y, hy⟩ : ∃ y, y = z s := ⟨_, rfl⟩
                          rw [← hy] at c0 HYS HNS
                          clear hy hbw hxb hbs hXF3
                          subst h7
                          by_cases f1 : 0 ≤ y ∧ y ≤ (i : Int) - 1
                          rotate_left
                          · have HI := Lib.hid (inB_no.2 f1)
                            obtain rfl := HNS.out (fun h => f1 ⟨by omega, h.2⟩)
                            clear HYS HNS f1 c1
                            go_wp2_with fail
                            go_quiet ((go_at_call 53; exact Calls.quiet_of_same (specIn_eq HI.out _)))
                            go_wp2_with fail
                            go_ret
                            exact ⟨rfl, below_drewN' HBW5.out _⟩
                          have HI := Lib.hid (inB_iff.2 f1)
                          by_cases f0 : s = 0
                          · have hds : decide ((0 : Int) < (s : Int)) = false := decide_eq_false (by omega)
                            have hdn : decide (0 < s) = false := decide_eq_false (by omega)
                            have HNX := Lib.hid (HYS.out ⟨by rw [HL0.out f0]; exact f1.1, f1.2⟩)
                            clear HYS HNS f1 f0 c1
                            go_wp2_with fail
                            go_quiet ((go_at_call 53; exact Calls.quiet_of_same (specIn_eq HI.out _)))
                            go_wp2_with fail
                            go_roundw
                            case rel => exact ⟨s + 1, by omega, by congr 1, HNX.out, below_drewN' HBS2.out _⟩
                            case measure => simp only [intOf]; omega
                          have hds : decide ((0 : Int) < (s : Int)) = true := decide_eq_true (by omega)
                          have hdn : decide (0 < s) = true := decide_eq_true (by omega)
                          have c2 := c1 (by omega)
                          have hL1 := HL1.out (by omega)
                          obtain ⟨sp, hsp⟩ : ∃ sp : Nat, s = sp + 1 := ⟨s - 1, by omega⟩
                          have hspc : (s : Int) - 1 = (sp : Int) := by omega
                          have hwsp : IntKind.i64.wrap ((s : Int) - 1) = (sp : Int) := by rw [hspc]; exact IntWalk.i64_in _ (by omega)
                          have hsp0 : (0 : Int) ≤ (sp : Int) := by omega
                          have hspl : (sp : Int) < (m : Int) := by omega
                          rw [show s - 1 = sp by omega] at c2 hL1
                          have HSP := Lib.hid hsp
                          obtain ⟨yp, hyp⟩ : ∃ yp, yp = z sp := ⟨_, rfl⟩
                          rw [← hyp] at c2 hL1
                          have HL2 := Lib.hid hL1
                          clear hsp hyp c1 hL1 hlb
                          by_cases f2 : y ≤ yp
                          · have hdy : decide (y ≤ yp) = true := decide_eq_true f2
                            obtain rfl := HNS.out (fun h => by have := HL2.out; have := h.1; omega)
                            clear HYS HNS f1 f2 f0
                            go_wp2_with fail
                            go_quiet ((go_at_call 53; exact Calls.quiet_of_same (specIn_eq HI.out _)))
                            go_wp2_with fail
                            go_ret
                            exact ⟨rfl, below_drewN' HBW5.out _⟩
                          · have hdy : decide (y ≤ yp) = false := decide_eq_false f2
                            have HNX := Lib.hid (HYS.out ⟨by have := HL2.out; omega, f1.2⟩)
                            clear HYS HNS f1 f2 f0
                            go_wp2_with fail
                            go_quiet ((go_at_call 53; exact Calls.quiet_of_same (specIn_eq HI.out _)))
                            go_wp2_with fail
                            go_roundw
                            case rel => exact ⟨s + 1, by omega, by congr 1, HNX.out, below_drewN' HBS2.out _⟩
                            case measure => simp only [intOf]; omega
                        · obtain rfl : s = m := by omega
                          have HAQ := Lib.hid (show asc (y3 t) (i : Int) (m3 t) from by rw [← HZZ.out, ← HMM.out]; exact HAS.out)
                          go_wp2_with fail
                          go_roundw
                          case rel =>
                            refine ⟨t + 1, by omega, by congr 1, fun u hu => ?_, fun u hu => ?_, HDD.out, (HEF.out.trans (HBT.out.mono HEF.out.size)).trans (HBS2.out.mono (by have := HEF.out.size; have := HBT.out.size; omega))⟩
                            · by_cases e2 : u = t
                              · subst e2; exact HAQ.out
                              · exact HA.out u (by omega)
                            · by_cases e2 : u = t
                              · subst e2; rw [← HV0.out]; exact HD1.out
                              · exact HG1.out u (by omega)
                          case measure => simp only [intOf]; omega
                · obtain rfl : q = n3 := by omega
                  obtain rfl := HRT.out ⟨HG.out.1, HG.out.2, HBP.out, HCP.out, by omega, HA.out, HG1.out, HDF.out⟩
                  go_wp2_with fail
                  go_ret
                  exact ⟨rfl, HBW3.out⟩

end Go.Proofs.Ytokhkcebdbopcab
