/- What the draws of boxes for two sides hand out. -/
import Derived.Test.YtnkhjlpeeljelabDrawWts
namespace Go.Proofs.Ytnkhjlpeeljelab
open Go.RowKit
set_option linter.unusedVariables false

theorem infoBoolD : (Try.prog.info? 4).map (fun i => (i.zero, i.size, i.bytes)) = some (some (.bool false), 1, 1) := by kernel_rfl

set_option maxRecDepth 100000 in
set_option maxHeartbeats 4000000 in
theorem DrawLay_any {n : Nat} {p : Option Addr} {cap gc oc : Nat} {w0 w : World} (hn : n ≤ 1048576) (hb0 : Below w0.heap.size w0 w) (hC : Code w0.heap.size n w0 p gc oc) :
    Calls Try.prog 23 #[.slice p n cap] w fun e w' => ∃ (v : Value) (q : Nat) (z : Nat → Int), q ≤ 13 ∧ e = .returned v ∧ Rd w' v q q z ∧ Below w.heap.size w w' := by
  have hsw : w0.heap.size ≤ w.heap.size := hb0.size
  have HC := Lib.hid (hC.laterW hb0 (Nat.le_refl _))
  clear hC hb0
  go_enter Try.func23, Try.ntmps23
  go_wp2_with fail
  refine (new_any hn hsw HC.out).mono ?_
  rintro e w1 ⟨g, rfl, hc1, hb1, hg1⟩
  have C1 := Lib.hid hc1
  have HB1 := Lib.hid hb1
  clear hc1 hb1
  go_wp2_with fail
  refine (l07Weights_any hn C1.out).mono ?_
  rintro e w2 ⟨v, q, l, hq, hl, rfl, ho, hc2, hg2⟩
  have O2 := Lib.hid ho
  have HB2 := Lib.hid (below_cuW HB1.out hg2 hg1)
  have HL := Lib.hid hl
  clear hc2 ho hg2 hl
  go_wp2_with fail
  go_ret
  refine ⟨v, q, fun j => l.getD j 0, hq, rfl, ?_, HB2.out⟩
  have h9 := (Own.of_own (z := fun j => l.getD j 0) O2.out (fun j hj => by
    rw [List.getElem?_map, List.getElem?_eq_getElem (by rw [HL.out]; omega), List.getD_eq_getElem?_getD, List.getElem?_eq_getElem (by rw [HL.out]; omega)]; rfl)).rd (Nat.le_refl _)
  rw [Nat.mul_one] at h9
  exact h9

theorem map_bool_at (l : List Bool) (j : Nat) (hj : j < l.length) : (l.map Value.bool)[j]? = some (.bool (l.getD j false)) := by
  rw [List.getElem?_map, List.getElem?_eq_getElem hj, List.getD_eq_getElem?_getD, List.getElem?_eq_getElem hj]; rfl

set_option maxRecDepth 100000 in
set_option maxHeartbeats 8000000 in
theorem DrawSide_any {n : Nat} {p : Option Addr} {cap gc oc : Nat} {w0 w : World} (hn : n ≤ 1048576) (hb0 : Below w0.heap.size w0 w) (hC : Code w0.heap.size n w0 p gc oc) :
    Calls Try.prog 29 #[.slice p n cap] w fun e w' => ∃ (v u : Value) (q m : Nat) (z : Nat → Int) (b : Nat → Bool), q ≤ 13 ∧ m ≤ 14 ∧ e = .returned (.tuple #[v, u]) ∧ Rd w' v q q z ∧ RdB w' u m b ∧ Below w.heap.size w w' := by
  obtain ⟨i0, hi, hz0, hz1, hz2⟩ := info_parts infoBoolD
  have hsw : w0.heap.size ≤ w.heap.size := hb0.size
  have HC := Lib.hid (hC.laterW hb0 (Nat.le_refl _))
  clear hC hb0
  go_enter Try.func29, Try.ntmps29
  go_wp2_with fail
  refine (new_any hn hsw HC.out).mono ?_
  rintro e w1 ⟨g, rfl, hc1, hb1, hg1⟩
  have C1 := Lib.hid hc1
  have HG1 := Lib.hid hc1.lt
  have HB1 := Lib.hid hb1
  have hs1 : w.heap.size ≤ w1.heap.size := hb1.size
  clear hc1 hb1
  go_wp2_with fail
  refine (l07Weights_any hn C1.out).mono ?_
  rintro e w2 ⟨v, q, l, hq, hl, rfl, ho, hc2, hg2⟩
  have HB2 := Lib.hid (below_cuW HB1.out hg2 hg1)
  have hg9 : g < w1.heap.size := HG1.out
  have C2 := Lib.hid hc2
  have hgl : g < w2.heap.size := hc2.lt
  have hs2 : w.heap.size ≤ w2.heap.size := HB2.out.size
  have HVB := Lib.hid (fun b (hb : v.ownBlock = some b) => (ho.lt b hb).2)
  have V2 := Lib.hid ho
  have HL := Lib.hid hl
  obtain ⟨pv, cv, rfl⟩ := own_sliceW ho
  obtain ⟨v, hv⟩ : ∃ v, v = Value.slice pv q cv := ⟨_, rfl⟩
  rw [← hv] at V2 HVB
  have HV0 := Lib.hid hv
  clear hc2 ho hg2 hl hv
  go_wp2_with fail
  go_loopw [6, 7] (fun uv iv wr => ∃ (k : Nat) (lb : List Bool), k ≤ q ∧ iv = .int .i64 (k : Int) ∧ Hid (lb.length = k) ∧ wr.ownsRow w2.heap.size 4 1 uv k (lb.map Value.bool) ∧ Hid (wr.ownsRow w1.heap.size 3 1 v q (l.map (Value.int .i64))) ∧ Cu w0.heap.size n p cap gc oc wr g ∧ w2.grownBy wr (some g)) (fun _ iv _ => q - (intOf iv).toNat)
  case atStart => exact ⟨0, [], by omega, rfl, rfl, ⟨rfl, .inr ⟨w2.heap.size, 0, #[], rfl, Nat.le_refl _, heap_alloc_new w2 _, Nat.le_refl _, by unfold maxLen; omega, rfl, rfl⟩⟩, V2.out.alloc _, C2.out.allocW _, World.grownBy_alloc w2 _ _⟩
  case round =>
    obtain ⟨k, lb, hk, rfl, HLB, hown, HV, hcu, hgr⟩ := hrel
    have HOWN := Lib.hid hown
    have HCU := Lib.hid hcu
    have HGR := Lib.hid hgr
    clear hown hcu hgr
    by_cases hkq : k < q
    · have hk0 : (0 : Int) ≤ (k : Int) := by omega
      have hkl : (k : Int) < (q : Int) := by omega
      have hwk : IntKind.i64.wrap ((k : Int) + 1) = (k : Int) + 1 := IntWalk.i64_in _ (by omega)
      go_wp2_with fail
      refine (once_at hn HCU.out 2 _ rfl (by omega) (by omega)).mono ?_
      rintro e w3 ⟨x, rfl, hc3, hg3⟩
      have C3 := Lib.hid hc3
      have O3 := Lib.hid (own_cuW HOWN.out hg3 hgl)
      have V3 := Lib.hid (own_cuW HV.out hg3 hg9)
      have G3 := Lib.hid (HGR.out.trans hg3)
      have hs3 : w2.heap.size ≤ w3.heap.size := G3.out.size
      clear hc3 hg3 HCU HOWN HGR HV
      go_wp2_with (at_builtin; refine wpList_append_own _ rfl _ _ 43 rfl w2.heap.size 4 i0 (.bool false) 1 1 Try.underlying43 hi hz0 hz1 hz2 rfl (by decide) _ (k) _ rfl (O3.out.alloc _) ⟨w3.heap.size, 0, none⟩ 1 1 [.bool x] rfl rfl (by intro j u hj; match j, hj with | 0, hj => simp at hj; subst hj; simp [Addr.add]) (by intro u hu; simp at hu; rcases hu with rfl; rfl) (by unfold maxLen; omega) (by omega) (by simp; omega) ?_; intro v' w4 hown4 hgrow4 _)
      have HV4 := Lib.hid ((V3.out.alloc _).kept hgrow4 (by
        cases hv : v.ownBlock with
        | none => exact .inl rfl
        | some b => exact .inr (fun e => by have h1 := HVB.out b hv; have h2 := (O3.out.lt b e.symm).1; omega)))
      have hcu4 : Cu _ n p cap gc oc w4 g := (C3.out.allocW _).grown hgrow4 (fun e => by have := (O3.out.lt g e.symm).1; omega) (fun j hj => by have := (O3.out.lt j hj).1; omega)
      have hgr4 : w2.grownBy w4 (some g) := grown_app (B' := w2.heap.size) G3.out O3.out hgrow4
      have hmap : (lb.map Value.bool) ++ [.bool x] = (lb ++ [x]).map Value.bool := by simp
      rw [hmap] at hown4
      have HO4 := Lib.hid hown4
      have HC4 := Lib.hid hcu4
      have HG4 := Lib.hid hgr4
      clear hown4 hmap hcu4 hgr4 hgrow4
      go_wp2_with fail
      go_roundw
      case rel => exact ⟨k + 1, lb ++ [x], by omega, by congr 1, by rw [List.length_append, HLB.out]; rfl, HO4.out, HV4.out, HC4.out, HG4.out⟩
      case measure => simp only [intOf]; omega
    · obtain rfl : k = q := by omega
      go_wp2_with fail
      refine (once_at hn HCU.out 12 _ rfl (by omega) (by omega)).mono ?_
      rintro e w5 ⟨b, rfl, hc5, hg5⟩
      have C5 := Lib.hid hc5
      have O5 := Lib.hid (own_cuW HOWN.out hg5 hgl)
      have V5 := Lib.hid (own_cuW HV.out hg5 hg9)
      have G5 := Lib.hid (HGR.out.trans hg5)
      have hs5 : w2.heap.size ≤ w5.heap.size := G5.out.size
      clear hc5 hg5 HCU HOWN HGR HV
      cases b
      · go_wp2_with fail
        go_ret2
        refine ⟨.slice pv k cv, _, k, k, fun j => l.getD j 0, fun j => lb.getD j false, hq, by omega, rfl, ?_, ?_, below_cuW HB2.out G5.out (by omega)⟩
        · have h9 := (Own.of_own (z := fun j => l.getD j 0) V5.out (fun j hj => by
            rw [List.getElem?_map, List.getElem?_eq_getElem (by rw [HL.out]; omega), List.getD_eq_getElem?_getD, List.getElem?_eq_getElem (by rw [HL.out]; omega)]; rfl)).rd (Nat.le_refl _)
          rw [Nat.mul_one] at h9
          rw [← HV0.out]
          exact h9
        · obtain ⟨pz, cz, rfl⟩ := own_sliceW O5.out
          have hc9 : k ≤ cz := by
            rcases O5.out.2 with ⟨e1, h0⟩ | ⟨gz, cz', _, e1, -, -, hle, -⟩
            · omega
            · injection e1 with _ _ e3
              omega
          obtain ⟨gq, h1, -⟩ := FlatAt.of_own (f := fun j => .bool (lb.getD j false)) O5.out (fun j hj => map_bool_at _ j (by rw [HLB.out]; omega))
          rw [Nat.mul_one] at h1
          exact ⟨pz, cz, gq, 0, rfl, hc9, h1.wide (Nat.zero_le _) (Nat.le_refl _)⟩
      · go_wp2_with (at_builtin; refine wpList_append_own _ rfl _ _ 43 rfl w2.heap.size 4 i0 (.bool false) 1 1 Try.underlying43 hi hz0 hz1 hz2 rfl (by decide) _ (k) _ rfl (O5.out.alloc _) ⟨w5.heap.size, 0, none⟩ 1 1 [.bool true] rfl rfl (by intro j u hj; match j, hj with | 0, hj => simp at hj; subst hj; simp [Addr.add]) (by intro u hu; simp at hu; rcases hu with rfl; rfl) (by unfold maxLen; omega) (by omega) (by simp; omega) ?_; intro v' w6 hown4 hgrow4 _)
        have HV4 := Lib.hid ((V5.out.alloc _).kept hgrow4 (by
          cases hv : v.ownBlock with
          | none => exact .inl rfl
          | some b => exact .inr (fun e => by have h1 := HVB.out b hv; have h2 := (O5.out.lt b e.symm).1; omega)))
        have hcu4 : Cu _ n p cap gc oc w6 g := (C5.out.allocW _).grown hgrow4 (fun e => by have := (O5.out.lt g e.symm).1; omega) (fun j hj => by have := (O5.out.lt j hj).1; omega)
        have hgr4 : w2.grownBy w6 (some g) := grown_app (B' := w2.heap.size) G5.out O5.out hgrow4
        have hmap : (lb.map Value.bool) ++ [.bool true] = (lb ++ [true]).map Value.bool := by simp
        rw [hmap] at hown4
        have O6 := Lib.hid hown4
        have G6 := Lib.hid hgr4
        have HLL := Lib.hid (show (lb ++ [true]).length = k + 1 by rw [List.length_append, HLB.out]; rfl)
        clear hown4 hmap hcu4 hgr4 hgrow4
        go_wp2_with fail
        go_ret2
        refine ⟨.slice pv k cv, _, k, (k + 1), fun j => l.getD j 0, fun j => (lb ++ [true]).getD j false, hq, by omega, rfl, ?_, ?_, below_cuW HB2.out G6.out (by omega)⟩
        · have h9 := (Own.of_own (z := fun j => l.getD j 0) HV4.out (fun j hj => by
            rw [List.getElem?_map, List.getElem?_eq_getElem (by rw [HL.out]; omega), List.getD_eq_getElem?_getD, List.getElem?_eq_getElem (by rw [HL.out]; omega)]; rfl)).rd (Nat.le_refl _)
          rw [Nat.mul_one] at h9
          rw [← HV0.out]
          exact h9
        · obtain ⟨pz, cz, rfl⟩ := own_sliceW O6.out
          have hc9 : (k + 1) ≤ cz := by
            rcases O6.out.2 with ⟨e1, h0⟩ | ⟨gz, cz', _, e1, -, -, hle, -⟩
            · omega
            · injection e1 with _ _ e3
              omega
          obtain ⟨gq, h1, -⟩ := FlatAt.of_own (f := fun j => .bool ((lb ++ [true]).getD j false)) O6.out (fun j hj => map_bool_at _ j (by rw [HLL.out]; omega))
          rw [Nat.mul_one] at h1
          exact ⟨pz, cz, gq, 0, rfl, hc9, h1.wide (Nat.zero_le _) (Nat.le_refl _)⟩

end Go.Proofs.Ytnkhjlpeeljelab
