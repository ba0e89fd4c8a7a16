/- What the draws of weights and sides hand out. -/
import Derived.Test.YtnkhjlpeeljelabDraw0
import Derived.Test.YtnkhjlpeeljelabDraw
import Derived.Test.YtnkhjlpeeljelabCode
import Derived.Test.YtnkhjlpeeljelabBools0
import Derived.Test.YtnkhjlpeeljelabBlk
import Derived.Laws.OwnMore
namespace Go.Proofs.Ytnkhjlpeeljelab
open Go.RowKit
set_option linter.unusedVariables false

theorem infoIntD : (Try.prog.info? 3).map (fun i => (i.zero, i.size, i.bytes)) = some (some (.int .i64 0), 1, 8) := by kernel_rfl
theorem own_cuW {w w' : World} {B' : Nat} {e : TypeId} {k : Nat} {v : Value} {n : Nat} {xs : List Value} {g : Nat} (h : w.ownsRow B' e k v n xs) (hg : w.grownBy w' (some g)) (hne : g < B') : w'.ownsRow B' e k v n xs :=
  h.kept hg (.inr fun e => by have := (h.lt g e).1; omega)
theorem Cu.allocW {B n : Nat} {p : Option Addr} {cap gc oc : Nat} {w : World} {g : Nat} (h : Cu B n p cap gc oc w g) (o : Obj) : Cu B n p cap gc oc (w.alloc o) g := h.below ((Below.refl _ _).alloc (Nat.le_refl _) _)
theorem below_cuW {w w1 w2 : World} {g : Nat} (h : Below w.heap.size w w1) (hg : w1.grownBy w2 (some g)) (hBg : w.heap.size ≤ g) : Below w.heap.size w w2 :=
  h.trans (⟨hg.os, hg.tape, hg.output, hg.size, fun k hk => hg.block k (by have := h.size; omega) (by intro e; injection e with e; omega)⟩ : Below w.heap.size w1 w2)
theorem Code.laterW {B n : Nat} {w w' : World} {p : Option Addr} {gc oc : Nat} (h : Code B n w p gc oc) (hb : Below w.heap.size w w') (hB : B ≤ w.heap.size) : Code B n w' p gc oc :=
  ⟨h.1, fun j hj => by
    obtain ⟨x, hx, hc⟩ := h.2 j hj
    exact ⟨x, hx, (hb.cell (p := ⟨gc, oc + j, none⟩) (by have := (h.1 (by omega)).2; show gc < _; omega)).trans hc⟩⟩
/-- An append of one cell to the row, with the cursor elsewhere. -/
theorem grown_app {w w3 w4 : World} {g : Nat} {B' : Nat} {e : TypeId} {k : Nat} {v : Value} {m : Nat} {xs : List Value} {o : Obj} (hG : w.grownBy w3 (some g)) (hO : w3.ownsRow w.heap.size e k v m xs) (hg : (w3.alloc o).grownBy w4 v.ownBlock) : w.grownBy w4 (some g) := by
  have h1 := hG.trans (World.grownBy_alloc w3 o _)
  exact ⟨hg.os.trans h1.os, hg.tape.trans h1.tape, hg.output.trans h1.output, Nat.le_trans h1.size hg.size, fun j hj hne => (hg.block j (by have := hG.size; simp; omega) (fun e => by have := (hO.lt j e.symm).1; omega)).trans (h1.block j hj hne)⟩

theorem own_sliceW {w : World} {B : Nat} {e : TypeId} {k : Nat} {v : Value} {n : Nat} {xs : List Value} (h : w.ownsRow B e k v n xs) : ∃ p c, v = .slice p n c := by
  rcases h.2 with ⟨rfl, h0⟩ | ⟨g, c, _, rfl, -⟩
  · exact ⟨none, 0, by rw [h0]⟩
  · exact ⟨_, _, rfl⟩

set_option maxRecDepth 100000 in
set_option maxHeartbeats 8000000 in
theorem l07Weights_any {B n : Nat} {p : Option Addr} {cap gc oc : Nat} {w : World} {g : Nat} (hn : n ≤ 1048576) (h : Cu B n p cap gc oc w g) :
    Calls Try.prog 60 #[.pointer (some ⟨g, 0, none⟩)] w fun e w' => ∃ (v : Value) (q : Nat) (l : List Int), q ≤ 13 ∧ l.length = q ∧ e = .returned v ∧ w'.ownsRow w.heap.size 3 1 v q (l.map (Value.int .i64)) ∧ Cu B n p cap gc oc w' g ∧ w.grownBy w' (some g) := by
  obtain ⟨i0, hi, hz0, hz1, hz2⟩ := info_parts infoIntD
  have H := Lib.hid h
  have hgl := h.lt
  have hgB := h.base
  clear h
  go_enter Try.func60, Try.ntmps60
  go_wp2_with fail
  refine (below_at hn (H.out.allocW _) 8 _ rfl (by omega) (by omega)).mono ?_
  rintro e w1 ⟨N, hN, rfl, hc1, hg1⟩
  have C1 := Lib.hid hc1
  have hrow0 : w1.ownsRow w.heap.size 3 1 (.slice (some ⟨w.heap.size, 0, none⟩) 0 0) 0 [] := own_cuW (B' := w.heap.size) ⟨rfl, .inr ⟨w.heap.size, 0, #[], rfl, Nat.le_refl _, heap_alloc_new w _, Nat.le_refl _, by unfold maxLen; omega, rfl, rfl⟩⟩ hg1 hgl
  have R1 := Lib.hid hrow0
  have G1 := Lib.hid ((World.grownBy_alloc w _ _).trans hg1)
  clear hc1 hg1 hrow0
  go_wp2_with fail
  go_loopw [3, 4] (fun ov nv wr => ∃ (k : Nat) (l : List Int), k ≤ N ∧ nv = .int .i64 (((N - k : Nat)) : Int) ∧ Hid (l.length = k) ∧ wr.ownsRow w.heap.size 3 1 ov k (l.map (Value.int .i64)) ∧ Cu B n p cap gc oc wr g ∧ w.grownBy wr (some g)) (fun _ nv _ => (intOf nv).toNat)
  case atStart => exact ⟨0, [], by omega, rfl, rfl, R1.out, C1.out, G1.out⟩
  case round =>
    obtain ⟨k, l, hk, rfl, HL, hown, hcu, hgr⟩ := hrel
    obtain ⟨r, hr⟩ : ∃ r, r = N - k := ⟨_, rfl⟩
    rw [← hr]
    have HOWN := Lib.hid hown
    have HCU := Lib.hid hcu
    have HGR := Lib.hid hgr
    clear hown hcu hgr
    by_cases hkn : k < N
    · have hr1 : 1 ≤ r := by omega
      have hr9 : r ≤ 9 := by omega
      have hrd : decide ((0 : Int) < (r : Int)) = true := decide_eq_true (by omega)
      have hrd2 : decide (0 < r) = true := decide_eq_true (by omega)
      have HR : Hid (r = N - k) := hr
      clear hr
      go_wp2_with fail
      refine (pickNew hn HCU.out [0, 1, 5, 12, 12, 40, 73, 200, 2000] 9 9 rfl (by decide) (by decide) _ rfl _).mono ?_
      rintro e w3 ⟨x, hx, rfl, hc3, hg3⟩
      have C3 := Lib.hid hc3
      have O3 := Lib.hid (own_cuW HOWN.out hg3 hgl)
      have G3 := Lib.hid (HGR.out.trans hg3)
      have hs3 : w.heap.size ≤ w3.heap.size := G3.out.size
      clear hx hc3 hg3 HCU HOWN HGR
      go_wp2_with (at_builtin; refine wpList_append_own _ rfl _ _ 38 rfl w.heap.size 3 i0 (.int .i64 0) 1 8 Try.underlying38 hi hz0 hz1 hz2 rfl (by decide) _ (k) _ rfl (O3.out.alloc _) ⟨w3.heap.size, 0, none⟩ 1 1 [.int .i64 x] rfl rfl (by intro j u hj; match j, hj with | 0, hj => simp at hj; subst hj; simp [Addr.add]) (by intro u hu; simp at hu; rcases hu with rfl; rfl) (by unfold maxLen; omega) (by omega) (by simp; omega) ?_; intro v' w4 hown4 hgrow4 _)
      have hcu4 : Cu B n p cap gc oc w4 g := (C3.out.allocW _).grown hgrow4 (fun e => by have := (O3.out.lt g e.symm).1; omega) (fun j hj => by have := (O3.out.lt j hj).1; omega)
      have hgr4 : w.grownBy w4 (some g) := grown_app (B' := B) G3.out O3.out hgrow4
      have hmap : (l.map (Value.int .i64)) ++ [.int .i64 x] = (l ++ [x]).map (Value.int .i64) := by simp
      rw [hmap] at hown4
      have HO4 := Lib.hid hown4
      have HC4 := Lib.hid hcu4
      have HG4 := Lib.hid hgr4
      clear hown4 hmap hcu4 hgr4 hgrow4
      go_wp2_with fail
      go_roundw
      case rel => exact ⟨k + 1, l ++ [x], by omega, by rw [show ((N - (k + 1) : Nat) : Int) = (r : Int) - 1 by have := HR.out; omega], by rw [List.length_append, HL.out]; rfl, HO4.out, HC4.out, HG4.out⟩
      case measure => have := HR.out; simp only [intOf]; omega
    · obtain rfl : k = N := by omega
      have hr0 : r = 0 := by omega
      subst hr0
      clear hr
      have hk7 : k ≤ 7 := by omega
      go_wp2_with fail
      refine (once_at hn HCU.out 14 _ rfl (by omega) (by omega)).mono ?_
      rintro e w5 ⟨b, rfl, hc5, hg5⟩
      have C5 := Lib.hid hc5
      have O5 := Lib.hid (own_cuW HOWN.out hg5 hgl)
      have G5 := Lib.hid (HGR.out.trans hg5)
      have hs5 : w.heap.size ≤ w5.heap.size := G5.out.size
      clear hc5 hg5 HCU HOWN HGR
      cases b
      · go_wp2_with fail
        refine (once_at hn C5.out 20 _ rfl (by omega) (by omega)).mono ?_
        rintro e w6 ⟨b, rfl, hc6, hg6⟩
        have C6 := Lib.hid hc6
        have O6 := Lib.hid (own_cuW O5.out hg6 hgl)
        have G6 := Lib.hid (G5.out.trans hg6)
        clear hc6 hg6 C5 O5 G5
        cases b
        · go_wp2_with fail
          go_ret
          exact ⟨_, (k), l, by omega, HL.out, rfl, O6.out, C6.out, G6.out⟩
        · go_wp2_with fail
          go_loopw [3] (fun ov wr => ∃ (j : Nat) (l2 : List Int), j ≤ 13 ∧ (∃ pq cq, ov = .slice pq j cq) ∧ Hid (l2.length = j) ∧ wr.ownsRow w.heap.size 3 1 ov j (l2.map (Value.int .i64)) ∧ Cu B n p cap gc oc wr g ∧ w.grownBy wr (some g)) (fun ov _ => 13 - (match ov with | .slice _ k _ => k | _ => 0))
          case atStart => exact ⟨(k), l, by omega, own_sliceW O6.out, HL.out, O6.out, C6.out, G6.out⟩
          case round =>
            obtain ⟨j, l2, hj, ⟨pq, cq, rfl⟩, HL2, hown, hcu, hgr⟩ := hrel
            have HOWN := Lib.hid hown
            have HCU := Lib.hid hcu
            have HGR := Lib.hid hgr
            clear hown hcu hgr
            go_wp2_with fail
            refine (below_at hn HCU.out 2 _ rfl (by omega) (by omega)).mono ?_
            rintro e w8 ⟨t, ht, rfl, hc8, hg8⟩
            have C8 := Lib.hid hc8
            have O8 := Lib.hid (own_cuW HOWN.out hg8 hgl)
            have G8 := Lib.hid (HGR.out.trans hg8)
            have hs8 : w.heap.size ≤ w8.heap.size := G8.out.size
            clear hc8 hg8 HCU HOWN HGR
            have hwt : IntKind.i64.wrap (12 + (t : Int)) = 12 + (t : Int) := IntWalk.i64_in _ (by omega)
            by_cases hjt : j < 12 + t
            · have hd : decide ((j : Int) < 12 + (t : Int)) = true := decide_eq_true (by omega)
              have hj12 : j ≤ 12 := by omega
              clear hjt
              go_wp2_with (at_builtin; refine wpList_append_own _ rfl _ _ 38 rfl w.heap.size 3 i0 (.int .i64 0) 1 8 Try.underlying38 hi hz0 hz1 hz2 rfl (by decide) _ (j) _ rfl (O8.out.alloc _) ⟨w8.heap.size, 0, none⟩ 1 1 [.int .i64 9] rfl rfl (by intro j u hj; match j, hj with | 0, hj => simp at hj; subst hj; simp [Addr.add]) (by intro u hu; simp at hu; rcases hu with rfl; rfl) (by unfold maxLen; omega) (by omega) (by simp; omega) ?_; intro v' w4 hown4 hgrow4 _)
              have hcu4 : Cu B n p cap gc oc w4 g := (C8.out.allocW _).grown hgrow4 (fun e => by have := (O8.out.lt g e.symm).1; omega) (fun j hj => by have := (O8.out.lt j hj).1; omega)
              have hgr4 : w.grownBy w4 (some g) := grown_app (B' := B) G8.out O8.out hgrow4
              have hmap : (l2.map (Value.int .i64)) ++ [.int .i64 9] = (l2 ++ [9]).map (Value.int .i64) := by simp
              rw [hmap] at hown4
              have HO4 := Lib.hid hown4
              have HC4 := Lib.hid hcu4
              have HG4 := Lib.hid hgr4
              obtain ⟨pz, cz, rfl⟩ := own_sliceW hown4
              clear hown4 hmap hcu4 hgr4 hgrow4
              go_wp2_with fail
              go_roundw
              case rel => exact ⟨j + 1, l2 ++ [9], by omega, ⟨_, _, rfl⟩, by rw [List.length_append, HL2.out]; rfl, HO4.out, HC4.out, HG4.out⟩
              case measure => simp; omega
            · have hd : decide ((j : Int) < 12 + (t : Int)) = false := decide_eq_false (by omega)
              clear hjt
              go_wp2_with fail
              go_ret
              exact ⟨_, j, l2, by omega, HL2.out, rfl, O8.out, C8.out, G8.out⟩
      · go_wp2_with fail
        refine (pickNew hn C5.out [-1, 2001, -2000, 9223372036854775807, -9223372036854775808] 5 5 rfl (by decide) (by decide) _ rfl _).mono ?_
        rintro e w3 ⟨x, hx, rfl, hc3, hg3⟩
        have C3 := Lib.hid hc3
        have O3 := Lib.hid (own_cuW O5.out hg3 hgl)
        have G3 := Lib.hid (G5.out.trans hg3)
        have hs3 : w.heap.size ≤ w3.heap.size := G3.out.size
        clear hx hc3 hg3 C5 O5 G5
        go_wp2_with (at_builtin; refine wpList_append_own _ rfl _ _ 38 rfl w.heap.size 3 i0 (.int .i64 0) 1 8 Try.underlying38 hi hz0 hz1 hz2 rfl (by decide) _ (k) _ rfl (O3.out.alloc _) ⟨w3.heap.size, 0, none⟩ 1 1 [.int .i64 x] rfl rfl (by intro j u hj; match j, hj with | 0, hj => simp at hj; subst hj; simp [Addr.add]) (by intro u hu; simp at hu; rcases hu with rfl; rfl) (by unfold maxLen; omega) (by omega) (by simp; omega) ?_; intro v' w4 hown4 hgrow4 _)
        have hcu4 : Cu B n p cap gc oc w4 g := (C3.out.allocW _).grown hgrow4 (fun e => by have := (O3.out.lt g e.symm).1; omega) (fun j hj => by have := (O3.out.lt j hj).1; omega)
        have hgr4 : w.grownBy w4 (some g) := grown_app (B' := B) G3.out O3.out hgrow4
        have hmap : (l.map (Value.int .i64)) ++ [.int .i64 x] = (l ++ [x]).map (Value.int .i64) := by simp
        rw [hmap] at hown4
        have O7 := Lib.hid hown4
        have C7 := Lib.hid hcu4
        have G7 := Lib.hid hgr4
        have HL7 := Lib.hid (show (l ++ [x]).length = k + 1 by rw [List.length_append, HL.out]; rfl)
        obtain ⟨l7, hl7⟩ : ∃ l7, l7 = l ++ [x] := ⟨_, rfl⟩
        rw [← hl7] at O7 HL7
        clear hown4 hmap hcu4 hgr4 hgrow4 hl7
        go_wp2_with fail
        refine (once_at hn C7.out 20 _ rfl (by omega) (by omega)).mono ?_
        rintro e w6 ⟨b, rfl, hc6, hg6⟩
        have C6 := Lib.hid hc6
        have O6 := Lib.hid (own_cuW O7.out hg6 hgl)
        have G6 := Lib.hid (G7.out.trans hg6)
        clear hc6 hg6 C7 O7 G7
        cases b
        · go_wp2_with fail
          go_ret
          exact ⟨_, (k + 1), l7, by omega, HL7.out, rfl, O6.out, C6.out, G6.out⟩
        · go_wp2_with fail
          go_loopw [3] (fun ov wr => ∃ (j : Nat) (l2 : List Int), j ≤ 13 ∧ (∃ pq cq, ov = .slice pq j cq) ∧ Hid (l2.length = j) ∧ wr.ownsRow w.heap.size 3 1 ov j (l2.map (Value.int .i64)) ∧ Cu B n p cap gc oc wr g ∧ w.grownBy wr (some g)) (fun ov _ => 13 - (match ov with | .slice _ k _ => k | _ => 0))
          case atStart => exact ⟨(k + 1), l7, by omega, own_sliceW O6.out, HL7.out, O6.out, C6.out, G6.out⟩
          case round =>
            obtain ⟨j, l2, hj, ⟨pq, cq, rfl⟩, HL2, hown, hcu, hgr⟩ := hrel
            have HOWN := Lib.hid hown
            have HCU := Lib.hid hcu
            have HGR := Lib.hid hgr
            clear hown hcu hgr
            go_wp2_with fail
            refine (below_at hn HCU.out 2 _ rfl (by omega) (by omega)).mono ?_
            rintro e w8 ⟨t, ht, rfl, hc8, hg8⟩
            have C8 := Lib.hid hc8
            have O8 := Lib.hid (own_cuW HOWN.out hg8 hgl)
            have G8 := Lib.hid (HGR.out.trans hg8)
            have hs8 : w.heap.size ≤ w8.heap.size := G8.out.size
            clear hc8 hg8 HCU HOWN HGR
            have hwt : IntKind.i64.wrap (12 + (t : Int)) = 12 + (t : Int) := IntWalk.i64_in _ (by omega)
            by_cases hjt : j < 12 + t
            · have hd : decide ((j : Int) < 12 + (t : Int)) = true := decide_eq_true (by omega)
              have hj12 : j ≤ 12 := by omega
              clear hjt
              go_wp2_with (at_builtin; refine wpList_append_own _ rfl _ _ 38 rfl w.heap.size 3 i0 (.int .i64 0) 1 8 Try.underlying38 hi hz0 hz1 hz2 rfl (by decide) _ (j) _ rfl (O8.out.alloc _) ⟨w8.heap.size, 0, none⟩ 1 1 [.int .i64 9] rfl rfl (by intro j u hj; match j, hj with | 0, hj => simp at hj; subst hj; simp [Addr.add]) (by intro u hu; simp at hu; rcases hu with rfl; rfl) (by unfold maxLen; omega) (by omega) (by simp; omega) ?_; intro v' w4 hown4 hgrow4 _)
              have hcu4 : Cu B n p cap gc oc w4 g := (C8.out.allocW _).grown hgrow4 (fun e => by have := (O8.out.lt g e.symm).1; omega) (fun j hj => by have := (O8.out.lt j hj).1; omega)
              have hgr4 : w.grownBy w4 (some g) := grown_app (B' := B) G8.out O8.out hgrow4
              have hmap : (l2.map (Value.int .i64)) ++ [.int .i64 9] = (l2 ++ [9]).map (Value.int .i64) := by simp
              rw [hmap] at hown4
              have HO4 := Lib.hid hown4
              have HC4 := Lib.hid hcu4
              have HG4 := Lib.hid hgr4
              obtain ⟨pz, cz, rfl⟩ := own_sliceW hown4
              clear hown4 hmap hcu4 hgr4 hgrow4
              go_wp2_with fail
              go_roundw
              case rel => exact ⟨j + 1, l2 ++ [9], by omega, ⟨_, _, rfl⟩, by rw [List.length_append, HL2.out]; rfl, HO4.out, HC4.out, HG4.out⟩
              case measure => simp; omega
            · have hd : decide ((j : Int) < 12 + (t : Int)) = false := decide_eq_false (by omega)
              clear hjt
              go_wp2_with fail
              go_ret
              exact ⟨_, j, l2, by omega, HL2.out, rfl, O8.out, C8.out, G8.out⟩

end Go.Proofs.Ytnkhjlpeeljelab
