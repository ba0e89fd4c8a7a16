/- What DrawPlaces hands out (split from DrawScr2). -/
import Derived.Test.YtlklggkkkbamhaaDraw0
import Derived.Test.YtlklggkkkbamhaaOwnV
import Derived.OwnWalk
import Derived.Laws.MakeOwn
import Derived.StillTailTactics
import Derived.Deep.AppendLies
namespace Go.Proofs.Ytlklggkkkbamhaa
open Go.RowKit
set_option linter.unusedVariables false

theorem Code.laterP {B n : Nat} {w w' : World} {p : Option Addr} {gc oc : Nat} (h : Code B n w p gc oc) (hb : Below w.heap.size w w') (hB : B ≤ w.heap.size) : Code B n w' p gc oc :=
  ⟨h.1, fun j hj => by
    obtain ⟨x, hx, hc⟩ := h.2 j hj
    exact ⟨x, hx, (hb.cell (p := ⟨gc, oc + j, none⟩) (by have := (h.1 (by omega)).2; show gc < _; omega)).trans hc⟩⟩
theorem below_cur {w w1 w2 : World} {g : Nat} (h : Below w.heap.size w w1) (hg : w1.grownBy w2 (some g)) (hBg : w.heap.size ≤ g) : Below w.heap.size w w2 :=
  h.trans (⟨hg.os, hg.tape, hg.output, hg.size, fun k hk => hg.block k (by have := h.size; omega) (by intro e; injection e with e; omega)⟩ : Below w.heap.size w1 w2)
theorem Cu.allocdP {B n : Nat} {p : Option Addr} {cap gc oc : Nat} {w : World} {g : Nat} (h : Cu B n p cap gc oc w g) (o : Obj) : Cu B n p cap gc oc (w.alloc o) g := h.below ((Below.refl _ _).alloc (Nat.le_refl _) _)
theorem Cu.drewnP {B n : Nat} {p : Option Addr} {cap gc oc : Nat} {w : World} {g : Nat} (h : Cu B n p cap gc oc w g) : Cu B n p cap gc oc w.drew g := h.kept rfl (fun _ _ => rfl)

theorem infoInt2 : (Try.prog.info? 3).map (fun i => (i.zero, i.size, i.bytes)) = some (some (.int .i64 0), 1, 8) := by kernel_rfl
theorem own_cur {w w' : World} {B' : Nat} {e : TypeId} {k : Nat} {v : Value} {n : Nat} {xs : List Value} {g : Nat} (h : w.ownsRow B' e k v n xs) (hg : w.grownBy w' (some g)) (hne : g < B') : w'.ownsRow B' e k v n xs :=
  h.kept hg (.inr fun e => by have := (h.lt g e).1; omega)

set_option maxRecDepth 100000 in
set_option maxHeartbeats 4000000 in
theorem DrawPlaces_any {n : Nat} {p : Option Addr} {cap gc oc : Nat} {w0 w : World} (hn : n ≤ 1048576) (hb0 : Below w0.heap.size w0 w) (hC : Code w0.heap.size n w0 p gc oc) :
    Calls Try.prog 16 #[.slice p n cap] w fun e w' => ∃ (v : Value) (z : Nat → Int), (∀ j, j < 12 → 0 ≤ z j ∧ z j ≤ 9999) ∧ e = .returned v ∧ Own w' w.heap.size w'.heap.size v 12 12 z ∧ Below w.heap.size w w' := by
  obtain ⟨i0, hi, hz0, hz1, hz2⟩ := info_parts infoInt2
  have hsw : w0.heap.size ≤ w.heap.size := hb0.size
  have HC := Lib.hid (hC.laterP hb0 (Nat.le_refl _))
  clear hC hb0
  go_enter Try.func16, Try.ntmps16
  go_wp2_with fail
  refine (new_any hn hsw HC.out).mono ?_
  rintro e w1 ⟨g, rfl, hc1, hb1, hg1⟩
  have C1 := Lib.hid hc1
  have HB1 := Lib.hid hb1
  have hgl : g < w1.heap.size := hc1.lt
  have hs1 : w.heap.size ≤ w1.heap.size := hb1.size
  clear hc1 hb1
  go_wp2_with fail
  go_loopw [4, 5] (fun ov v wr => ∃ (k : Nat) (l : List Int), k ≤ 12 ∧ v = .int .i64 (k : Int) ∧ l.length = k ∧ Hid (∀ x ∈ l, 0 ≤ x ∧ x ≤ 9999) ∧ wr.ownsRow w1.heap.size 3 1 ov k (l.map (Value.int .i64)) ∧ Cu w0.heap.size n p cap gc oc wr g ∧ Below w.heap.size w wr ∧ w1.heap.size ≤ wr.heap.size) (fun _ v _ => 12 - (intOf v).toNat)
  case atStart => exact ⟨0, [], by omega, rfl, rfl, fun x hx => absurd hx (by simp), ⟨rfl, .inr ⟨w1.heap.size, 0, #[], rfl, Nat.le_refl _, heap_alloc_new w1 _, Nat.le_refl _, by unfold maxLen; omega, rfl, rfl⟩⟩, C1.out.allocdP _, HB1.out.alloc hs1 _, by simp⟩
  case round =>
    obtain ⟨k, l, hk, rfl, hl, HL, hown, hcu, hbw, hszr⟩ := hrel
    by_cases hkn : k < 12
    · have hk0 : (0 : Int) ≤ (k : Int) := by omega
      have hkl : (k : Int) < 12 := by omega
      have HOWN := Lib.hid hown
      have HBW := Lib.hid hbw
      have HCU := Lib.hid hcu
      clear hown hbw hcu
      go_wp2_with fail
      refine (below_at hn HCU.out 10000 _ rfl (by omega) (by omega)).mono ?_
      rintro e w2 ⟨x, hx, rfl, hc2, hg2⟩
      have C2 := Lib.hid hc2
      have HO2 := Lib.hid (own_cur HOWN.out hg2 hgl)
      have HB2 := Lib.hid (below_cur HBW.out hg2 hg1)
      have hsz2 : w1.heap.size ≤ w2.heap.size := by have := hg2.size; omega
      clear hc2 hg2
      go_wp2_with (at_builtin; refine wpList_append_own _ rfl _ _ 39 rfl w1.heap.size 3 i0 (.int .i64 0) 1 8 Try.underlying39 hi hz0 hz1 hz2 rfl (by decide) _ k _ rfl (HO2.out.alloc _) ⟨w2.heap.size, 0, none⟩ 1 1 [.int .i64 (x : Int)] rfl rfl (by intro j u hj; match j, hj with | 0, hj => simp at hj; subst hj; simp [Addr.add]) (by intro u hu; simp at hu; subst hu; rfl) (by unfold maxLen; omega) (by omega) (by simp; omega) ?_; intro v' w3 hown3 hgrow3 _)
      have hbw3 : Below w.heap.size w w3 := (HB2.out.alloc HB2.out.size _).grown hgrow3 (by have := HB2.out.size; simp; omega) (fun j hj => by have := (HO2.out.lt j hj).1; omega)
      have hcu3 : Cu w0.heap.size n p cap gc oc w3 g := (C2.out.allocdP _).grown hgrow3 (fun e => by have := (HO2.out.lt g e.symm).1; omega) (fun j hj => by have := (HO2.out.lt j hj).1; omega)
      have hmap : (l.map (Value.int .i64)) ++ [.int .i64 (x : Int)] = (l ++ [(x : Int)]).map (Value.int .i64) := by simp
      rw [hmap] at hown3
      have HO3 := Lib.hid hown3
      have hgs3 := hgrow3.size
      clear hown3 hgrow3 hmap
      go_wp2_with fail
      go_roundw
      case rel => exact ⟨k + 1, l ++ [(x : Int)], by omega, by congr 1, by simp [hl], fun y hy => by
        rcases List.mem_append.1 hy with h | h
        · exact HL.out y h
        · simp at h; omega, HO3.out, hcu3, hbw3, by have := hgs3; simp at this; omega⟩
      case measure => simp only [intOf]; omega
    · obtain rfl : k = 12 := by omega
      have HOWN := Lib.hid hown
      clear hown
      go_wp2_with fail
      go_ret
      refine ⟨_, fun j => l.getD j 0, fun j hj => ?_, rfl, ?_, hbw⟩
      · show 0 ≤ l.getD j 0 ∧ l.getD j 0 ≤ 9999
        rw [List.getD_eq_getElem?_getD, List.getElem?_eq_getElem (by omega)]
        exact HL.out _ (List.getElem_mem _)
      · have h1 := Own.of_own (z := fun j => l.getD j 0) HOWN.out (fun j hj => by
          rw [List.getElem?_map, List.getElem?_eq_getElem (by omega), List.getD_eq_getElem?_getD, List.getElem?_eq_getElem (by omega)]; rfl)
        rw [Nat.mul_one] at h1
        exact h1.wide hs1 (Nat.le_refl _)

end Go.Proofs.Ytlklggkkkbamhaa
