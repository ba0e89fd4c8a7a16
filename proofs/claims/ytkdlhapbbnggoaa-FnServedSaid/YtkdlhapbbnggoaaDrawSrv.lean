/- What the draws of any images, a wait and a staff hand out. -/
import Derived.Test.YtkdlhapbbnggoaaDrawImg
namespace Go.Proofs.Ytkdlhapbbnggoaa
open Go.RowKit
set_option linter.unusedVariables false

/-- The length of a slice. -/
def lenS : Value → Nat
  | .slice _ n _ => n
  | _ => 0
theorem Cu.far3 {B n : Nat} {p : Option Addr} {cap gc oc : Nat} {w : World} {g : Nat} (h : Cu B n p cap gc oc w g) (q : Addr) (v : Value) (h1 : g ≠ q.block) (h2 : B ≤ q.block) : Cu B n p cap gc oc (w.setCell q v) g :=
  h.kept (Below.heap_setCell _ _ _ _ h1) (fun k hk => Below.heap_setCell _ _ _ _ (by omega))

set_option maxRecDepth 100000 in
set_option maxHeartbeats 8000000 in
theorem l04AnyImages_any {B n : Nat} {p : Option Addr} {cap gc oc : Nat} {w : World} {g : Nat} (hn : n ≤ 1048576) (h : Cu B n p cap gc oc w g) :
    Calls Try.prog 68 #[.pointer (some ⟨g, 0, none⟩)] w fun e w' => ∃ (pp : Option Addr) (c gr o q : Nat) (z : Nat → Int), q ≤ 17 ∧ q ≤ c ∧ e = .returned (.slice pp q c) ∧ FlatAt w' w.heap.size w'.heap.size pp gr o (q * 2) (fun j => .int .i64 (z j)) ∧ Cu B n p cap gc oc w' g ∧ w.grownBy w' (some g) := by
  obtain ⟨i0, hi, hz0, hz1, hz2⟩ := info_parts infoImage
  have c3 := cellsImage
  have H := Lib.hid h
  have hgl := h.lt
  have hgB := h.base
  clear h
  go_enter Try.func68, Try.ntmps68
  go_wp2_with fail
  refine (l04Images_any hn H.out).mono ?_
  rintro e w1 ⟨v, q, l, hq, hl, -, rfl, ho, hc1, hg1⟩
  have hs1 : w.heap.size ≤ w1.heap.size := hg1.size
  have hshape : ∃ (pv : Option Addr) (cv : Nat), v = .slice pv q cv := by
    rcases ho.2 with ⟨h1, h2⟩ | ⟨_, _, _, h1, _⟩
    · exact ⟨none, 0, by rw [h1, h2]⟩
    · exact ⟨_, _, h1⟩
  obtain ⟨pv, cv, rfl⟩ := hshape
  have O1 := Lib.hid ho
  have hrow := Own.of_own (z := fun j => l.getD j 0) ho (fun j hj => by
    rw [List.getElem?_map, List.getElem?_eq_getElem (by omega), List.getD_eq_getElem?_getD, List.getElem?_eq_getElem (by omega)]; rfl)
  obtain ⟨z, hz⟩ : ∃ z, z = fun j => l.getD j 0 := ⟨_, rfl⟩
  rw [← hz] at hrow
  have R1 := Lib.hid hrow
  have C1 := Lib.hid hc1
  have G1 := Lib.hid hg1
  have HL := Lib.hid hl
  clear ho hrow hc1 hg1 hz hl
  go_wp2_with fail
  refine (below_at hn C1.out 16 _ rfl (by omega) (by omega)).mono ?_
  rintro e w2 ⟨m, hm, rfl, hc2, hg2⟩
  have C2 := Lib.hid hc2
  have G2 := Lib.hid (G1.out.trans hg2)
  have O2 := Lib.hid (own_cu2 O1.out hg2 hgl)
  have hs2 : w1.heap.size ≤ w2.heap.size := hg2.size
  have R2 : Hid (Own w2 w.heap.size w1.heap.size (.slice pv q cv) q (q * 2) z) := by
    obtain ⟨p', c', g', o', a, b, c, d⟩ := R1.out
    have hr : ∀ k, some g = some k → k < w.heap.size ∨ w1.heap.size ≤ k := fun k hk => .inl (by injection hk with hk; omega)
    exact ⟨p', c', g', o', a, b, c.grown hg2 (Nat.le_refl _) hr, d.grown hg2 (fun hm => ⟨(c.1 hm).2.2, fun e => by have := (c.1 hm).2.1; injection e with e; omega⟩)⟩
  clear hc2 hg2 C1 G1 O1 R1
  have hmove : ∀ W, w2.grownBy W (some g) → Own W w.heap.size w1.heap.size (.slice pv q cv) q (q * 2) z := fun W hg => by
    obtain ⟨p', c', g', o', a, b, c, d⟩ := R2.out
    have hr : ∀ k, some g = some k → k < w.heap.size ∨ w1.heap.size ≤ k := fun k hk => .inl (by injection hk with hk; omega)
    exact ⟨p', c', g', o', a, b, c.grown hg hs2 hr, d.grown hg (fun hm => ⟨by have := (c.1 hm).2.2; omega, fun e => by have := (c.1 hm).2.1; injection e with e; omega⟩)⟩
  have HM := Lib.hid hmove
  clear hmove
  have hqm : q < 1 ∨ 0 < q := by omega
  by_cases m0 : m = 0
  · subst m0
    rcases hqm with h0 | h0
    · obtain rfl : q = 0 := by omega
      go_wp2_with fail
      go_ret
      obtain ⟨p', c', g', o', he, hcc, hF, -⟩ := R2.out
      injection he with he1 he2 he3
      subst he1 he3
      exact ⟨_, _, _, _, 0, z, by omega, hcc, rfl, hF.wide (Nat.le_refl _) hs2, C2.out, G2.out⟩
    · have hq0 : (0 : Int) < (q : Int) := by omega
      have hqd : decide ((0 : Int) < (q : Int)) = true := decide_eq_true hq0
      have hqd2 : decide (0 < q) = true := decide_eq_true h0
      go_wp2_with fail
      refine (pickNew hn C2.out [-1, 100000, 3] 3 3 rfl (by decide) (by decide) _ rfl _).mono ?_
      rintro e w3 ⟨x, hx, rfl, hc3, hg3⟩
      have C3 := Lib.hid hc3
      have G3 := Lib.hid (G2.out.trans hg3)
      have hs3 : w2.heap.size ≤ w3.heap.size := hg3.size
      obtain ⟨p', c', g', o', he, hcc, hF, hFr⟩ := HM.out w3 hg3
      injection he with he1 he2 he3
      subst he1 he3
      obtain ⟨rfl, hg1', hg2'⟩ := hF.1 (by omega)
      have HF := Lib.hid hF
      have d0 := hF.int 0 (by omega); rw [Nat.add_zero] at d0
      have d1 := hFr 0 (by omega); rw [Nat.add_zero] at d1
      clear hF hFr hc3 hg3 hx
      go_wp2_with fail
      go_ret
      have hF' := FlatAt.set (u := .int .i64 x) HF.out (0) (by omega)
      refine ⟨_, _, g', o', q, fun j => if j = 0 then x else z j, by omega, hcc, rfl, ?_, ?_, ?_⟩
      · refine (((by simpa using hF' : FlatAt (w3.setCell ⟨g', o', none⟩ (.int .i64 x)) w.heap.size w1.heap.size (some ⟨g', o', none⟩) g' o' (q * 2) (fun j => if j = 0 then .int .i64 x else .int .i64 (z j)))).congr (fun j hj => ?_)).wide (Nat.le_refl _) (by simp only [World.setCell, Array.size_modify]; omega)
        show (if j = 0 then _ else _) = Value.int .i64 (if j = 0 then _ else _)
        by_cases e : j = 0
        · rw [if_pos e, if_pos e]
        · rw [if_neg e, if_neg e]
      · exact C3.out.far3 _ _ (by show g ≠ g'; omega) (by show B ≤ g'; omega)
      · exact grown_setCell G3.out (.inr (by show w.heap.size ≤ g'; omega)) _
  have m0d : ((m : Int) == 0) = false := by simpa using (show ¬ (m : Int) = 0 by omega)
  by_cases m1 : m = 1
  · subst m1
    rcases hqm with h0 | h0
    · obtain rfl : q = 0 := by omega
      go_wp2_with fail
      go_ret
      obtain ⟨p', c', g', o', he, hcc, hF, -⟩ := R2.out
      injection he with he1 he2 he3
      subst he1 he3
      exact ⟨_, _, _, _, 0, z, by omega, hcc, rfl, hF.wide (Nat.le_refl _) hs2, C2.out, G2.out⟩
    · have hq0 : (0 : Int) < (q : Int) := by omega
      have hqd : decide ((0 : Int) < (q : Int)) = true := decide_eq_true hq0
      have hqd2 : decide (0 < q) = true := decide_eq_true h0
      obtain ⟨r, hr⟩ : ∃ r, q = r + 1 := ⟨q - 1, by omega⟩
      have hwr : IntKind.i64.wrap ((q : Int) - 1) = (r : Int) := by rw [show (q : Int) - 1 = (r : Int) by omega]; exact IntWalk.i64_in _ (by omega)
      have hr0 : (0 : Int) ≤ (r : Int) := by omega
      have hrl : (r : Int) < (q : Int) := by omega
      have HRQ := Lib.hid hr
      have hqi : (q : Int) - 1 = (r : Int) := by omega
      clear hr
      go_wp2_with fail
      refine (pickNew hn C2.out [0, 5000, 5001] 3 3 rfl (by decide) (by decide) _ rfl _).mono ?_
      rintro e w3 ⟨x, hx, rfl, hc3, hg3⟩
      have C3 := Lib.hid hc3
      have G3 := Lib.hid (G2.out.trans hg3)
      have hs3 : w2.heap.size ≤ w3.heap.size := hg3.size
      obtain ⟨p', c', g', o', he, hcc, hF, hFr⟩ := HM.out w3 hg3
      injection he with he1 he2 he3
      subst he1 he3
      obtain ⟨rfl, hg1', hg2'⟩ := hF.1 (by omega)
      have HF := Lib.hid hF
      have d0 := hF.int (r * 2 + 1) (by omega)
      have d1 := hFr (r * 2 + 1) (by omega)
      rw [← Nat.add_assoc] at d0 d1
      clear hF hFr hc3 hg3 hx
      go_wp2_with fail
      go_ret
      have hF' := FlatAt.set (u := .int .i64 x) HF.out (r * 2 + 1) (by omega)
      refine ⟨_, _, g', o', q, fun j => if j = r * 2 + 1 then x else z j, by omega, hcc, rfl, ?_, ?_, ?_⟩
      · refine (((by simpa [Nat.add_assoc] using hF' : FlatAt (w3.setCell ⟨g', o' + r * 2 + 1, none⟩ (.int .i64 x)) w.heap.size w1.heap.size (some ⟨g', o', none⟩) g' o' (q * 2) (fun j => if j = r * 2 + 1 then .int .i64 x else .int .i64 (z j)))).congr (fun j hj => ?_)).wide (Nat.le_refl _) (by simp only [World.setCell, Array.size_modify]; omega)
        show (if j = r * 2 + 1 then _ else _) = Value.int .i64 (if j = r * 2 + 1 then _ else _)
        by_cases e : j = r * 2 + 1
        · rw [if_pos e, if_pos e]
        · rw [if_neg e, if_neg e]
      · exact C3.out.far3 _ _ (by show g ≠ g'; omega) (by show B ≤ g'; omega)
      · exact grown_setCell G3.out (.inr (by show w.heap.size ≤ g'; omega)) _
  have m1d : ((m : Int) == 1) = false := by simpa using (show ¬ (m : Int) = 1 by omega)
  by_cases m2 : m = 2
  rotate_left
  · have m2d : ((m : Int) == 2) = false := by simpa using (show ¬ (m : Int) = 2 by omega)
    go_wp2_with fail
    go_ret
    obtain ⟨p', c', g', o', he, hcc, hF, -⟩ := R2.out
    injection he with he1 he2 he3
    subst he1 he3
    exact ⟨_, _, _, _, q, z, by omega, hcc, rfl, hF.wide (Nat.le_refl _) hs2, C2.out, G2.out⟩
  subst m2
  clear hqm
  go_wp2_with fail
  clear R2 HM
  go_loopw [3] (fun ov wr => ∃ (pk : Option Addr) (k ck : Nat) (l : List Int), k ≤ 17 ∧ ov = .slice pk k ck ∧ l.length = k * 2 ∧ wr.ownsRow w.heap.size 65 2 (.slice pk k ck) k (l.map (Value.int .i64)) ∧ Cu B n p cap gc oc wr g ∧ w.grownBy wr (some g)) (fun ov _ => 17 - lenS ov)
  case atStart => exact ⟨pv, q, cv, l, by omega, rfl, HL.out, O2.out, C2.out, G2.out⟩
  case round =>
    obtain ⟨pk, k, ck, l, hk, rfl, hl, hown, hcu, hgr⟩ := hrel
    have HOWN := Lib.hid hown
    have HCU := Lib.hid hcu
    have HGR := Lib.hid hgr
    have HL := Lib.hid hl
    clear hown hcu hgr hl
    go_wp2_with fail
    refine (below_at hn HCU.out 2 _ rfl (by omega) (by omega)).mono ?_
    rintro e w3 ⟨b, hb, rfl, hc3, hg3⟩
    have C3 := Lib.hid hc3
    have O3 := Lib.hid (own_cu2 HOWN.out hg3 hgl)
    have G3 := Lib.hid (HGR.out.trans hg3)
    have hs3 : w.heap.size ≤ w3.heap.size := G3.out.size
    clear hc3 hg3 HCU HOWN HGR
    by_cases hlt : k < 16 + b
    · have hd : decide ((k : Int) < 16 + (b : Int)) = true := decide_eq_true (by omega)
      have hb2 : (b : Int) < 2 := by omega
      go_wp2_with (at_builtin; refine wpList_append_own _ rfl _ _ 49 rfl w.heap.size 65 i0 (.agg #[.int .i64 0, .int .i64 0]) 2 16 Try.underlying49 hi hz0 hz1 hz2 rfl (by decide) _ k _ rfl (O3.out.alloc _) ⟨w3.heap.size, 0, none⟩ 1 1 [.int .i64 90, .int .i64 3] rfl rfl (by intro j u hj; match j, hj with | 0, hj => simp at hj; subst hj; simp [Addr.add] | 1, hj => simp at hj; subst hj; simp [Addr.add]) (by intro u hu; simp at hu; rcases hu with rfl | rfl <;> rfl) (by unfold maxLen; omega) (by omega) (by simp; omega) ?_; intro v' w4 hown4 hgrow4 _)
      have hcu4 : Cu B n p cap gc oc w4 g := (C3.out.alloc2 _).grown hgrow4 (fun e => by have := (O3.out.lt g e.symm).1; omega) (fun j hj => by have := (O3.out.lt j hj).1; omega)
      have hgr4 : w.grownBy w4 (some g) := by
        have h1 := G3.out.trans (World.grownBy_alloc w3 (.cells #[.int .i64 90, .int .i64 3] 65) _)
        exact ⟨hgrow4.os.trans h1.os, hgrow4.tape.trans h1.tape, hgrow4.output.trans h1.output, Nat.le_trans h1.size hgrow4.size, fun j hj hne => (hgrow4.block j (by simp; omega) (fun e => by have := (O3.out.lt j e.symm).1; omega)).trans (h1.block j hj hne)⟩
      have hmap : (l.map (Value.int .i64)) ++ [.int .i64 90, .int .i64 3] = (l ++ [90, 3]).map (Value.int .i64) := by simp
      rw [hmap] at hown4
      obtain ⟨p4, c4, rfl⟩ : ∃ (p4 : Option Addr) (c4 : Nat), v' = .slice p4 (k + 1) c4 := by
        rcases hown4.2 with ⟨h1, h2⟩ | ⟨_, _, _, h1, _⟩
        · exact absurd h2 (by omega)
        · exact ⟨_, _, h1⟩
      have HO4 := Lib.hid hown4
      clear hown4 hgrow4 hmap
      go_wp2_with fail
      go_roundw
      case rel => exact ⟨p4, k + 1, c4, l ++ [90, 3], by omega, rfl, by rw [List.length_append, HL.out]; simp; omega, HO4.out, hcu4, hgr4⟩
      case measure => simp only [lenS]; omega
    · have hd : decide ((k : Int) < 16 + (b : Int)) = false := decide_eq_false (by omega)
      have hb2 : (b : Int) < 2 := by omega
      go_wp2_with fail
      go_ret
      obtain ⟨p', c', g', o', he, hcc, hF, -⟩ := Own.of_own (z := fun j => l.getD j 0) O3.out (fun j hj => by
        rw [List.getElem?_map, List.getElem?_eq_getElem (by rw [HL.out]; omega), List.getD_eq_getElem?_getD, List.getElem?_eq_getElem (by rw [HL.out]; omega)]; rfl)
      injection he with he1 he2 he3
      subst he1 he3
      exact ⟨_, _, _, _, k, _, by omega, hcc, rfl, hF, C3.out, G3.out⟩

set_option maxRecDepth 100000 in
set_option maxHeartbeats 1000000 in
theorem l04Wait_any {B n : Nat} {p : Option Addr} {cap gc oc : Nat} {w : World} {g : Nat} (hn : n ≤ 1048576) (h : Cu B n p cap gc oc w g) :
    Calls Try.prog 69 #[.pointer (some ⟨g, 0, none⟩)] w fun e w' => ∃ x : Int, e = .returned (.int .i64 x) ∧ Cu B n p cap gc oc w' g ∧ w.grownBy w' (some g) := by
  have H := Lib.hid h
  clear h
  go_enter Try.func69, Try.ntmps69
  go_wp2_with fail
  refine (pickNew hn H.out [0, 0, 1, 2, 4, 9, 5000, -1, 5001] 9 9 rfl (by decide) (by decide) _ rfl _).mono ?_
  rintro e w1 ⟨x, hx, rfl, hc, hg⟩
  have C1 := Lib.hid hc
  have G1 := Lib.hid hg
  clear hc hg hx
  go_wp2_with fail
  go_ret
  exact ⟨x, rfl, C1.out, G1.out⟩

set_option maxRecDepth 100000 in
set_option maxHeartbeats 1000000 in
theorem l04Staff_any {B n : Nat} {p : Option Addr} {cap gc oc : Nat} {w : World} {g : Nat} (hn : n ≤ 1048576) (h : Cu B n p cap gc oc w g) :
    Calls Try.prog 70 #[.pointer (some ⟨g, 0, none⟩)] w fun e w' => ∃ x : Int, e = .returned (.int .i64 x) ∧ Cu B n p cap gc oc w' g ∧ w.grownBy w' (some g) := by
  have H := Lib.hid h
  clear h
  go_enter Try.func70, Try.ntmps70
  go_wp2_with fail
  refine (pickNew hn H.out [1, 1, 2, 2, 3, 4, 16, 0, 17] 9 9 rfl (by decide) (by decide) _ rfl _).mono ?_
  rintro e w1 ⟨x, hx, rfl, hc, hg⟩
  have C1 := Lib.hid hc
  have G1 := Lib.hid hg
  clear hc hg hx
  go_wp2_with fail
  go_ret
  exact ⟨x, rfl, C1.out, G1.out⟩

set_option maxRecDepth 100000 in
set_option maxHeartbeats 4000000 in
theorem DrawServe_any {n : Nat} {p : Option Addr} {cap gc oc : Nat} {w0 w : World} (hn : n ≤ 1048576) (hb0 : Below w0.heap.size w0 w) (hC : Code w0.heap.size n w0 p gc oc) :
    Calls Try.prog 50 #[.slice p n cap] w fun e w' => ∃ (v : Value) (q : Nat) (z : Nat → Int) (t s : Int), q ≤ 17 ∧ e = .returned (.tuple #[v, .int .i64 t, .int .i64 s]) ∧ Rd w' v q (q * 2) z ∧ Below w.heap.size w w' := by
  have hsw : w0.heap.size ≤ w.heap.size := hb0.size
  have HC := Lib.hid (hC.later2 hb0 (Nat.le_refl _))
  clear hC hb0
  go_enter Try.func50, Try.ntmps50
  go_wp2_with fail
  refine (new_any hn hsw HC.out).mono ?_
  rintro e w1 ⟨g, rfl, hc1, hb1, hg1⟩
  have C1 := Lib.hid hc1
  have HB1 := Lib.hid hb1
  have hs1 : w.heap.size ≤ w1.heap.size := hb1.size
  have hgl : g < w1.heap.size := hc1.lt
  clear hc1 hb1
  go_wp2_with fail
  refine (l04AnyImages_any hn C1.out).mono ?_
  rintro e w2 ⟨pp, c, gr, o, q, z, hq, hqc, rfl, hF, hc2, hg2⟩
  have C2 := Lib.hid hc2
  have F2 := Lib.hid hF
  have HB2 := Lib.hid (below_cu2 HB1.out hg2 hg1)
  have hs2 : w1.heap.size ≤ w2.heap.size := hg2.size
  clear hc2 hF hg2
  go_wp2_with fail
  refine (l04Wait_any hn C2.out).mono ?_
  rintro e w3 ⟨t, rfl, hc3, hg3⟩
  have C3 := Lib.hid hc3
  have F3 := Lib.hid (F2.out.grown hg3 (Nat.le_refl _) (fun k hk => .inl (by injection hk with hk; omega)))
  have HB3 := Lib.hid (below_cu2 HB2.out hg3 hg1)
  have hs3 : w2.heap.size ≤ w3.heap.size := hg3.size
  clear hc3 hg3
  go_wp2_with fail
  refine (l04Staff_any hn C3.out).mono ?_
  rintro e w4 ⟨s, rfl, hc4, hg4⟩
  have F4 := Lib.hid (F3.out.grown hg4 hs3 (fun k hk => .inl (by injection hk with hk; omega)))
  have HB4 := Lib.hid (below_cu2 HB3.out hg4 hg1)
  have hs4 : w3.heap.size ≤ w4.heap.size := hg4.size
  clear hc4 hg4
  go_wp2_with fail
  go_ret3
  exact ⟨_, q, z, t, s, hq, rfl, ⟨pp, c, gr, o, rfl, hqc, F4.out.wide (Nat.zero_le _) (by omega)⟩, HB4.out⟩

end Go.Proofs.Ytkdlhapbbnggoaa
