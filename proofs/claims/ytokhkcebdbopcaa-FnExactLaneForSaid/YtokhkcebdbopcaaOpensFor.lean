/- The openings for a bag: the program's openingsFor. -/
import Derived.Test.YtokhkcebdbopcaaOpenIn
import Derived.Test.YtokhkcebdbopcaaLanes
import Derived.RangeFuncBox
import Derived.Lib.OthersKept
namespace Go.Proofs.Ytokhkcebdbopcaa
open Go.RowKit
set_option linter.unusedVariables false

theorem owns_later {w w' : World} {base : Nat} {e : TypeId} {size : Nat} {v : Value} {n : Nat} {xs : List Value} (h : w.ownsRow base e size v n xs) (hb : Below w.heap.size w w') : w'.ownsRow base e size v n xs :=
  h.kept (grownBy.of_below hb none) (by cases hv : v.ownBlock with
    | none => exact .inl rfl
    | some g => exact .inr (by simp))
theorem owns_lower {B B' : Nat} {e : TypeId} {k : Nat} {v : Value} {n : Nat} {xs : List Value} {w : World} (h : w.ownsRow B e k v n xs) (hB : B' ≤ B) : w.ownsRow B' e k v n xs := by
  obtain ⟨h1, h2⟩ := h
  refine ⟨h1, ?_⟩
  rcases h2 with h2 | ⟨g, cap, cur, a, b, c⟩
  · exact .inl h2
  · exact .inr ⟨g, cap, cur, a, by omega, c⟩
theorem infoOpening : (Try.prog.info? 66).map (fun i => (i.zero, i.size, i.bytes)) = some (some (.agg #[.int .i64 0, .int .i64 0, .int .i64 0]), 3, 24) := by kernel_rfl

set_option maxRecDepth 100000 in
set_option maxHeartbeats 4000000 in
theorem iOpensFor_any (D : Int) (n : Nat) (hn : n ≤ 4) (p : Option Addr) (c : Nat) (nn : Nat → Nat) (hm : ∀ i, i < n → nn i ≤ 5) (xx : Nat → Nat → Int) (htm : ∀ i, i < n → tmOk (xx i) (nn i)) (t but : Int) (w : World) (h : LRd w (.slice p n c) n nn xx) :
    Calls Try.prog 57 #[.agg #[.int .i64 D, .slice p n c], .int .i64 t, .int .i64 but] w fun e w' => ∃ p' c', e = .returned (.slice p' (oCo D nn but n) c') ∧ w'.ownsRow w.heap.size 66 3 (.slice p' (oCo D nn but n) c') (oCo D nn but n) ((oTo D nn xx t but n).map (.int .i64)) ∧ Below w.heap.size w w' := by
  obtain ⟨i0, hi, hz0, hz1, hz2⟩ := info_parts infoOpening
  have co := cellsOpenF
  obtain ⟨p0, c0, g, o, s, he, hc, hf, hr⟩ := h
  injection he with e1 e2 e3
  subst e1 e3
  clear e2
  have H := Lib.hid hf
  have HR := Lib.hid hr
  have HM := Lib.hid hm
  have HT := Lib.hid htm
  clear hf hr hm htm
  go_enter Try.func57, Try.ntmps57
  go_wp2_with fail
  go_loopw [7, 14] (fun v iv wr => ∃ (k : Nat) (pq : Option Addr) (cq q : Nat) (l : List Int), k ≤ n ∧ iv = .int .i64 (k : Int) ∧ v = .slice pq q cq ∧ wr.ownsRow (w.heap.size + 1) 66 3 (.slice pq q cq) q (l.map (.int .i64)) ∧ Hid (l = oTo D nn xx t but k) ∧ Hid (q = oCo D nn but k) ∧ q ≤ k ∧ Hid (Below (w.heap.size + 1) (w.alloc (.cells #[.int .i64 D, .slice p n c] 29)) wr)) (fun _ iv _ => n - (intOf iv).toNat)
  case atStart =>
    exact ⟨0, some ⟨w.heap.size + 1, 0, none⟩, 0, 0, [], by omega, rfl, rfl, ⟨rfl, .inr ⟨w.heap.size + 1, 0, #[], rfl, Nat.le_refl _, heap_new _ _ _ (by simp), Nat.le_refl _, by decide, by simp, by simp⟩⟩, rfl, rfl, Nat.le_refl _, (Below.refl _ _).alloc (by simp) _⟩
  case round =>
    obtain ⟨k, pq, cq, q, l, hk, rfl, rfl, hown, HL, HQ, hq, HB⟩ := hrel
    have hsz : w.heap.size + 1 ≤ wr.heap.size := by have := HB.out.size; simp at this; omega
    have b0 : wr.cell? ⟨w.heap.size, 0, none⟩ = some (.int .i64 D) := (HB.out.cell (p := ⟨w.heap.size, 0, none⟩) (by show w.heap.size < _; omega)).trans (by simp)
    have HBW := Lib.hid (show Below w.heap.size w wr from ((Below.refl _ _).alloc (Nat.le_refl _) _).trans (HB.out.mono (by omega)))
    by_cases hkn : k < n
    · obtain ⟨rfl, -, hg⟩ := H.out.1 (by omega)
      obtain ⟨p1, c1, g1, o1, e1, hc1, hf1⟩ := HR.out k hkn
      have a0 := (HBW.out.cell (p := ⟨g, o + k, none⟩) hg).trans (H.out.2 k hkn)
      rw [e1] at a0
      have hml := HM.out k hkn
      have htk := HT.out k hkn
      have hk0 : (0 : Int) ≤ (k : Int) := by omega
      have hkl : (k : Int) < (n : Int) := by omega
      have hwk : IntKind.i64.wrap ((k : Int) + 1) = (k : Int) + 1 := IntWalk.i64_in _ (by omega)
      have HNO := Lib.hid (fun (hh : can D nn but k = false) => show l = oTo D nn xx t but (k + 1) ∧ q = oCo D nn but (k + 1) from by
        have e1 : oTo D nn xx t but (k + 1) = oTo D nn xx t but k ++ if can D nn but k = true then oOne nn xx t k else [] := rfl
        have e2 : oCo D nn but (k + 1) = oCo D nn but k + if can D nn but k = true then 1 else 0 := rfl
        rw [e1, e2, if_neg (by rw [hh]; decide), if_neg (by rw [hh]; decide), HL.out, HQ.out, List.append_nil]
        exact ⟨rfl, rfl⟩)
      have HYE := Lib.hid (fun (hh : can D nn but k = true) => show l ++ [(k : Int), opK (nn k) (lst (xx k) (nn k)) t, opC (nn k) (lst (xx k) (nn k)) t] = oTo D nn xx t but (k + 1) ∧ q + 1 = oCo D nn but (k + 1) from by
        have e1 : oTo D nn xx t but (k + 1) = oTo D nn xx t but k ++ if can D nn but k = true then oOne nn xx t k else [] := rfl
        have e2 : oCo D nn but (k + 1) = oCo D nn but k + if can D nn but k = true then 1 else 0 := rfl
        rw [e1, e2, if_pos hh, if_pos hh, HL.out, HQ.out]
        exact ⟨rfl, rfl⟩)
      have HCA := Lib.hid (show can D nn but k = (!((k : Int) == but) && decide ((nn k : Int) < D)) from rfl)
      have HOP := Lib.hid (fun W (hW : Below w.heap.size w W) => iOpenIn_any (nn k) (by omega) (xx k) htk p1 c1 g1 o1 (k : Int) t W ((hf1.below hW (Nat.le_refl _)).wide (Nat.zero_le _) hW.size))
      obtain ⟨K, hK⟩ : ∃ K, K = opK (nn k) (lst (xx k) (nn k)) t := ⟨_, rfl⟩
      obtain ⟨C, hC⟩ : ∃ C, C = opC (nn k) (lst (xx k) (nn k)) t := ⟨_, rfl⟩
      rw [← hK, ← hC] at HYE HOP
      obtain ⟨m, hm⟩ : ∃ m, m = nn k := ⟨_, rfl⟩
      rw [← hm] at a0 hml HCA HOP
      clear hm e1 hf1 htk hK hC HL HQ
      by_cases hbu : (k : Int) = but
      · have hne : ((k : Int) != but) = false := by simpa using hbu
        have HX := Lib.hid (HNO.out (by rw [HCA.out]; simp [hbu]))
        clear HNO HYE HCA hbu
        go_wp2_with fail
        go_roundw
        case rel => exact ⟨k + 1, pq, cq, q, l, by omega, by congr 1, rfl, hown, HX.out.1, HX.out.2, by omega, HB.out⟩
        case measure => simp only [intOf]; omega
      have hne : ((k : Int) != but) = true := by simpa using hbu
      by_cases hmD : (m : Int) < D
      rotate_left
      · have hd : decide ((m : Int) < D) = false := decide_eq_false hmD
        have HX := Lib.hid (HNO.out (by rw [HCA.out, hd, Bool.and_false]))
        clear HNO HYE HCA hbu hmD
        go_wp2_with fail
        go_roundw
        case rel => exact ⟨k + 1, pq, cq, q, l, by omega, by congr 1, rfl, hown, HX.out.1, HX.out.2, by omega, HB.out⟩
        case measure => simp only [intOf]; omega
      have hd : decide ((m : Int) < D) = true := decide_eq_true hmD
      have HX := Lib.hid (HYE.out (by rw [HCA.out, hd, Bool.and_true]; simpa using hbu))
      have HXL := Lib.hid (show (l ++ [(k : Int), K, C]).map (Value.int .i64) = l.map (.int .i64) ++ [.int .i64 (k : Int), .int .i64 K, .int .i64 C] by rw [List.map_append]; rfl)
      clear HNO HYE HCA hbu hmD
      go_wp2_with (first
        | (go_at_call 87; refine (HOP.out _ HBW.out).mono ?_; rintro e w4 ⟨rfl, hb4⟩; have hown4 := owns_later hown hb4; have HB4 := Lib.hid (HB.out.trans (hb4.mono hsz)); have hs4 := hb4.size; clear hb4)
        | (at_builtin; refine wpList_append_own _ rfl _ _ 69 rfl (w.heap.size + 1) 66 i0 _ 3 24 Try.underlying69 hi hz0 hz1 hz2 rfl (by decide) _ q _ rfl (hown4.alloc _) ⟨w4.heap.size, 0, none⟩ 1 1 [.int .i64 (k : Int), .int .i64 K, .int .i64 C] rfl rfl (by intro j u hj; match j, hj with | 0, hj => simp at hj; subst hj; simp [Addr.add] | 1, hj => simp at hj; subst hj; simp [Addr.add] | 2, hj => simp at hj; subst hj; simp [Addr.add]) (by intro u hu; simp at hu; rcases hu with rfl | rfl | rfl <;> rfl) (by unfold maxLen; omega) (by omega) (by simp; omega) ?_; intro v' w3 hown3 hgrow3 _))
      go_roundw
      case rel =>
        obtain ⟨g4, c4, rfl⟩ := ownsRow_succ hown3
        refine ⟨k + 1, some ⟨g4, 0, none⟩, c4, q + 1, _, by omega, by congr 1, rfl, by rw [HXL.out]; exact hown3, HX.out.1, HX.out.2, by omega, ?_⟩
        exact Below.grown (HB4.out.alloc (by first | omega | (simp; omega)) _) hgrow3 (by first | omega | (simp; omega)) (fun j hj => (hown4.lt j hj).1)
      case measure => simp only [intOf]; omega
    · obtain rfl : k = n := by omega
      have HE := Lib.hid HQ.out
      go_wp2_with fail
      go_ret
      refine ⟨pq, cq, ?_, ?_, HBW.out⟩
      · rw [← HE.out]; rfl
      · rw [← HE.out, ← HL.out]; exact owns_lower hown (by omega)

end Go.Proofs.Ytokhkcebdbopcaa
