/- What the model's l01Insert and NearTags leave. -/
import Derived.Test.YtjdmagackoddaaaDoorNearPlain
import Derived.Test.YtjdmagackoddaaaDoorCandSpec
import Derived.WalkSmall
import Derived.Deep.RegionWith
namespace Go.Proofs.YtjdmagackoddaaaDoor
open Go.RowKit
set_option linter.unusedVariables false

def cellsN (l : List Nat) : List Value := l.flatMap fun M => tagCell (tri M)
theorem cellsN_snoc (l : List Nat) (M : Nat) : cellsN (l ++ [M]) = cellsN l ++ tagCell (tri M) := by simp [cellsN]
theorem cellsN_length (l : List Nat) : (cellsN l).length = l.length * 3 := by
  induction l with
  | nil => rfl
  | cons M l ih => rw [cellsN, List.flatMap_cons, List.length_append]; show 3 + (cellsN l).length = _; rw [ih, List.length_cons]; omega
theorem cellsN_at (l : List Nat) (k : Nat) (hk : k < l.length) : (cellsN l)[k * 3]? = some (.int .i64 ((tri l[k]).1 : Int)) ∧ (cellsN l)[k * 3 + 1]? = some (.int .i64 ((tri l[k]).2.1 : Int)) ∧ (cellsN l)[k * 3 + 2]? = some (.int .i64 ((tri l[k]).2.2 : Int)) := by
  have e : l = l.take k ++ l[k] :: l.drop (k + 1) := by rw [← List.drop_eq_getElem_cons hk, List.take_append_drop]
  have h1 : cellsN l = cellsN (l.take k) ++ (tagCell (tri l[k]) ++ cellsN (l.drop (k + 1))) := by
    conv => lhs; rw [e]
    unfold cellsN
    rw [List.flatMap_append, List.flatMap_cons]
  have hl : (cellsN (l.take k)).length = k * 3 := by rw [cellsN_length, List.length_take, Nat.min_eq_left (by omega)]
  rw [h1]
  refine ⟨?_, ?_, ?_⟩
  · rw [List.getElem?_append_right (by omega), hl, Nat.sub_self]; rfl
  · rw [List.getElem?_append_right (by omega), hl, show k * 3 + 1 - k * 3 = 1 by omega]; rfl
  · rw [List.getElem?_append_right (by omega), hl, show k * 3 + 2 - k * 3 = 2 by omega]; rfl
/-- The three numbers of a tag's number. -/
def Tr (M : Nat) (a b c : Int) : Prop := okN M = true ∧ a = ((tri M).1 : Int) ∧ b = ((tri M).2.1 : Int) ∧ c = ((tri M).2.2 : Int)
theorem Tr.mk' {M : Nat} (h : okN M = true) : Tr M ((tri M).1 : Int) ((tri M).2.1 : Int) ((tri M).2.2 : Int) := ⟨h, rfl, rfl, rfl⟩
theorem Tr.cell {M : Nat} {a b c : Int} (h : Tr M a b c) : tagCell (tri M) = [.int .i64 a, .int .i64 b, .int .i64 c] := by obtain ⟨_, rfl, rfl, rfl⟩ := h; rfl
theorem snum_of {M : Nat} {a b c : Int} (h : Tr M a b c) (w : World) :
    Calls Tryd.prog 38 #[.agg #[.int .i64 a, .int .i64 b, .int .i64 c]] w fun e w' => e = .returned (.int .i64 (M : Int)) ∧ Below w.heap.size w w' := by
  obtain ⟨h1, rfl, rfl, rfl⟩ := h
  have := specNum_any ((tri M).1 : Int) ((tri M).2.1 : Int) ((tri M).2.2 : Int) w
  rwa [tri_num h1] at this
theorem cellsTagN : Tryd.prog.cellsOf 29 = 3 := by kernel_rfl
theorem own_drew {w : World} {base : Nat} {e : TypeId} {size : Nat} {v : Value} {n : Nat} {xs : List Value} (h : w.ownsRow base e size v n xs) {B : Nat} (w' : World) (hb : Below w.heap.size w w') : w'.ownsRow base e size v n xs := own_below h hb
theorem app_cells {M : Nat} {a b c : Int} (h : Tr M a b c) (l r : List Nat) (e : r = l ++ [M]) : cellsN l ++ [Value.int .i64 a, .int .i64 b, .int .i64 c] = cellsN r := by rw [e, cellsN_snoc, h.cell]
theorem app_len (l r : List Nat) {M : Nat} (e : r = l ++ [M]) : l.length + 1 = r.length := by rw [e]; simp
theorem newCell (w : World) (vs : Array Value) (t i : Nat) (v : Value) (h : vs[i]? = some v) : (w.alloc (.cells vs t)).cell? ⟨w.heap.size, i, none⟩ = some v := by
  have hn := heap_alloc_new w (.cells vs t)
  unfold World.cell?
  rw [hn]
  exact h
theorem row_form3 {w : World} {B n : Nat} {v : Value} {xs : List Value} (h : w.ownsRow B 29 3 v n xs) : ∃ p cap, v = .slice p n cap := by
  rcases h.2 with ⟨h1, h2⟩ | ⟨g, cap, cur, h1, -⟩
  · exact ⟨_, _, h1.trans (by rw [h2])⟩
  · exact ⟨_, _, h1⟩

set_option maxRecDepth 100000 in
set_option maxHeartbeats 2000000 in
theorem insert_any (l : List Nat) (hl : l.length ≤ 200) (x : Nat) (xa xb xc : Int) (hx : Tr x xa xb xc) (hok : ∀ M ∈ l, okN M = true) (v : Value) (B : Nat) (w : World) (h : w.ownsRow B 29 3 v l.length (cellsN l)) :
    Calls Tryd.prog 40 #[v, .agg #[.int .i64 xa, .int .i64 xb, .int .i64 xc]] w fun e w' => ∃ v', e = .returned v' ∧ w'.ownsRow (w.heap.size + 1) 29 3 v' (insF x l).length (cellsN (insF x l)) ∧ Below w.heap.size w w' := by
  obtain ⟨i0, hi, hz0, hz1, hz2⟩ := info_parts infoTag
  obtain ⟨n, hn⟩ : ∃ n, n = l.length := ⟨_, rfl⟩
  rw [← hn] at h hl
  obtain ⟨pa, ca, ga, rfl, ha⟩ : ∃ pa ca ga, v = .slice pa n ca ∧ (0 < n → pa = some ⟨ga, 0, none⟩ ∧ ga < w.heap.size) := by
    rcases h.2 with ⟨rfl, rfl⟩ | ⟨g, cap, cur, rfl, hb, hc, -⟩
    · exact ⟨_, _, 0, rfl, fun h => absurd h (by omega)⟩
    · exact ⟨_, _, g, rfl, fun _ => ⟨rfl, (Array.getElem?_eq_some_iff.1 hc).1⟩⟩
  have hcl : ∀ (k : Nat) (hk : k < l.length), pa = some ⟨ga, 0, none⟩ → w.cell? ⟨ga, k * 3, none⟩ = some (.int .i64 ((tri l[k]).1 : Int)) ∧ w.cell? ⟨ga, k * 3 + 1, none⟩ = some (.int .i64 ((tri l[k]).2.1 : Int)) ∧ w.cell? ⟨ga, k * 3 + 2, none⟩ = some (.int .i64 ((tri l[k]).2.2 : Int)) := by
    intro k hk hp
    subst hp
    obtain ⟨c0, c1, c2⟩ := cellsN_at l k hk
    exact ⟨(h.cellAt _ (by omega)).trans c0, (h.cellAt _ (by omega)).trans c1, (h.cellAt _ (by omega)).trans c2⟩
  have HC := Lib.hid hcl
  have PA := Lib.hid ha
  have HN := Lib.hid hn
  have HX := Lib.hid hx
  have HOK := Lib.hid hok
  have c3 := cellsTagN
  clear hcl ha hn hx hok h
  go_enter Tryd.func40, Tryd.ntmps40
  go_wp2_with fail
  have hnew : (w.alloc (.cells #[.int .i64 xa, .int .i64 xb, .int .i64 xc] 29)).cell? ⟨w.heap.size, 0, none⟩ = some (.int .i64 xa) ∧ (w.alloc (.cells #[.int .i64 xa, .int .i64 xb, .int .i64 xc] 29)).cell? ⟨w.heap.size, 1, none⟩ = some (.int .i64 xb) ∧ (w.alloc (.cells #[.int .i64 xa, .int .i64 xb, .int .i64 xc] 29)).cell? ⟨w.heap.size, 2, none⟩ = some (.int .i64 xc) := ⟨newCell _ _ _ _ _ rfl, newCell _ _ _ _ _ rfl, newCell _ _ _ _ _ rfl⟩
  obtain ⟨w0, hw0⟩ : ∃ w0, w0 = w.alloc (.cells #[.int .i64 xa, .int .i64 xb, .int .i64 xc] 29) := ⟨_, rfl⟩
  have hs0 : w0.heap.size = w.heap.size + 1 := by rw [hw0]; simp
  have B0 : Below w.heap.size w w0 := by rw [hw0]; exact (Below.refl _ _).alloc (Nat.le_refl _) _
  rw [← hw0] at hnew ⊢
  have HNW := Lib.hid hnew
  clear hw0 hnew
  have hst : (w0.alloc (.cells #[] 29)).ownsRow (w.heap.size + 1) 29 3 (.slice (some ⟨w.heap.size + 1, 0, none⟩) 0 0) 0 [] := by
    rw [← hs0]
    exact ⟨rfl, .inr ⟨w0.heap.size, 0, #[], rfl, Nat.le_refl _, heap_alloc_new w0 _, Nat.le_refl _, by decide, rfl, rfl⟩⟩
  have HST := Lib.hid hst
  have HS0 := Lib.hid hs0
  clear hst hs0
  go_loopw [5, 6, 7] (fun out dn i wr => ∃ (k : Nat) (d : Bool) (acc : List Nat), k ≤ n ∧ i = .int .i64 (k : Int) ∧ dn = .bool d ∧ acc.length ≤ 2 * k ∧ wr.ownsRow (w.heap.size + 1) 29 3 out acc.length (cellsN acc) ∧ Hid (insS x (l.take k) = (d, acc)) ∧ Below (w.heap.size + 1) w0 wr) (fun _ _ i _ => n - (intOf i).toNat)
  case atStart => exact ⟨0, false, [], by omega, rfl, rfl, by simp, HST.out, rfl, (Below.refl _ _).alloc (by rw [HS0.out]; exact Nat.le_refl _) _⟩
  case round =>
    obtain ⟨k, d, acc, hk, rfl, rfl, hac, hown, HK, hbw⟩ := hrel
    have hbs := hbw.size
    rw [HS0.out] at hbs
    by_cases hkn : k < n
    · obtain ⟨rfl, hga⟩ := PA.out (by omega)
      have hkl' : k < l.length := by rw [← HN.out]; exact hkn
      obtain ⟨y, hy⟩ : ∃ y, y = l[k] := ⟨_, rfl⟩
      obtain ⟨ya, yb, yc, hY⟩ : ∃ a b c, Tr y a b c := ⟨_, _, _, Tr.mk' (by rw [hy]; exact HOK.out _ (List.getElem_mem _))⟩
      obtain ⟨a0, a1, a2⟩ := HC.out k hkl' rfl
      rw [← hy, ← hY.2.1] at a0
      rw [← hy, ← hY.2.2.1] at a1
      rw [← hy, ← hY.2.2.2] at a2
      have HL : Hid (∀ X, Below (w.heap.size + 1) w0 X → X.cell? ⟨ga, k * 3, none⟩ = some (.int .i64 ya) ∧ X.cell? ⟨ga, k * 3 + 1, none⟩ = some (.int .i64 yb) ∧ X.cell? ⟨ga, k * 3 + 2, none⟩ = some (.int .i64 yc)) := fun X hX =>
        ⟨(hX.cell (p := ⟨ga, k * 3, none⟩) (Nat.lt_succ_of_lt hga)).trans ((B0.cell (p := ⟨ga, k * 3, none⟩) hga).trans a0), (hX.cell (p := ⟨ga, k * 3 + 1, none⟩) (Nat.lt_succ_of_lt hga)).trans ((B0.cell (p := ⟨ga, k * 3 + 1, none⟩) hga).trans a1), (hX.cell (p := ⟨ga, k * 3 + 2, none⟩) (Nat.lt_succ_of_lt hga)).trans ((B0.cell (p := ⟨ga, k * 3 + 2, none⟩) hga).trans a2)⟩
      have HQ : Hid (∀ X, Below (w.heap.size + 1) w0 X → X.cell? ⟨w.heap.size, 0, none⟩ = some (.int .i64 xa) ∧ X.cell? ⟨w.heap.size, 1, none⟩ = some (.int .i64 xb) ∧ X.cell? ⟨w.heap.size, 2, none⟩ = some (.int .i64 xc)) := fun X hX =>
        ⟨(hX.cell (p := ⟨w.heap.size, 0, none⟩) (Nat.lt_succ_self _)).trans HNW.out.1, (hX.cell (p := ⟨w.heap.size, 1, none⟩) (Nat.lt_succ_self _)).trans HNW.out.2.1, (hX.cell (p := ⟨w.heap.size, 2, none⟩) (Nat.lt_succ_self _)).trans HNW.out.2.2⟩
      obtain ⟨b0, b1, b2⟩ := HL.out wr hbw
      obtain ⟨q0, q1, q2⟩ := HQ.out wr hbw
      have htk : l.take (k + 1) = l.take k ++ [y] := by rw [hy, List.take_succ_eq_append_getElem hkl']
      have hst : insS x (l.take (k + 1)) = ist x (d, acc) y := by rw [htk, insS_snoc, HK.out]
      have HY := Lib.hid hY
      clear a0 a1 a2 hy hY htk hkl' HK
      have hk0 : (0 : Int) ≤ (k : Int) := by omega
      have hkl : (k : Int) < (n : Int) := by omega
      cases d
      · by_cases hxy : x < y
        · have hs2 : insS x (l.take (k + 1)) = (true, acc ++ [x, y]) := by rw [hst]; unfold ist; rw [if_pos ⟨rfl, hxy⟩]
          have HS2 := Lib.hid hs2
          have hxy' : decide ((x : Int) < (y : Int)) = true := decide_eq_true (by omega)
          clear hst hs2
          have hgw : ga < wr.heap.size := by omega
          have hqw : w.heap.size < wr.heap.size := by omega
          go_wp2_with fail
          go_region_with (first
            | (go_at_call 38; (with_reducible refine (snum_of HX.out _).mono ?_); rintro e w2 ⟨rfl, hb2⟩; have c20 := (hb2.cell (p := ⟨ga, k * 3, none⟩) hgw).trans b0; have c21 := (hb2.cell (p := ⟨ga, k * 3 + 1, none⟩) hgw).trans b1; have c22 := (hb2.cell (p := ⟨ga, k * 3 + 2, none⟩) hgw).trans b2)
            | (go_at_call 38; (with_reducible refine (snum_of HY.out _).mono ?_); rintro e w3 ⟨rfl, hb3⟩))
          all_goals
            have bW : Below wr.heap.size wr w3 := by first | exact hb2.trans (hb3.mono hb2.size) | exact ((Below.refl _ wr).drew.trans hb2).trans (hb3.mono hb2.size)
            have hW3 : Below (w.heap.size + 1) w0 w3 := hbw.trans (bW.mono hbs)
            have hz3 := hW3.size
            rw [HS0.out] at hz3
            obtain ⟨r0, r1, r2⟩ := HQ.out w3 hW3
            have hown3 := own_below hown bW
            have hl4 : (acc ++ [x]).length ≤ 500 := by simp; omega
            clear b0 b1 b2 q0 q1 q2 c20 c21 c22 hb2 hb3 bW hown
            go_wp2_with (first
              | (at_builtin; refine wpList_append_own _ rfl _ _ 25 rfl (w.heap.size + 1) 29 i0 (.agg #[.int .i64 0, .int .i64 0, .int .i64 0]) 3 24 Tryd.underlying25 hi hz0 hz1 hz2 rfl (by decide) _ (acc.length) _ rfl (hown3.alloc _) ⟨w3.heap.size, 0, none⟩ 1 1 [.int .i64 xa, .int .i64 xb, .int .i64 xc] rfl rfl (by intro j u hj; match j, hj with | 0, hj => simp at hj; subst hj; simp [Addr.add] | 1, hj => simp at hj; subst hj; simp [Addr.add] | 2, hj => simp at hj; subst hj; simp [Addr.add]) (by intro u hu; simp at hu; rcases hu with rfl | rfl | rfl <;> rfl) (by unfold maxLen; omega) (by omega) (by simp; omega) ?_; intro v4 w4 hown4 hgrow4 _; have hW4 : Below (w.heap.size + 1) w0 w4 := (hW3.alloc hz3 _).grown hgrow4 (by simp; omega) (fun j hj => (hown3.lt j hj).1); have hz4 : w.heap.size + 1 ≤ w4.heap.size := (show w0.heap.size = w.heap.size + 1 from HS0.out) ▸ hW4.size; have e4 : cellsN (acc) ++ [Value.int .i64 xa, .int .i64 xb, .int .i64 xc] = cellsN (acc ++ [x]) := app_cells HX.out (acc) (acc ++ [x]) (by simp); have f4 : (acc).length + 1 = (acc ++ [x]).length := app_len (M := x) acc (acc ++ [x]) (by simp); rw [e4, f4] at hown4; clear hgrow4 hown3 e4 f4; obtain ⟨t0, t1, t2⟩ := HL.out w4 hW4; clear r0 r1 r2)
              | (at_builtin; refine wpList_append_own _ rfl _ _ 25 rfl (w.heap.size + 1) 29 i0 (.agg #[.int .i64 0, .int .i64 0, .int .i64 0]) 3 24 Tryd.underlying25 hi hz0 hz1 hz2 rfl (by decide) _ ((acc ++ [x]).length) _ rfl (hown4.alloc _) ⟨w4.heap.size, 0, none⟩ 1 1 [.int .i64 ya, .int .i64 yb, .int .i64 yc] rfl rfl (by intro j u hj; match j, hj with | 0, hj => simp at hj; subst hj; simp [Addr.add] | 1, hj => simp at hj; subst hj; simp [Addr.add] | 2, hj => simp at hj; subst hj; simp [Addr.add]) (by intro u hu; simp at hu; rcases hu with rfl | rfl | rfl <;> rfl) (by unfold maxLen; omega) (by omega) (by simp; omega) ?_; intro v5 w5 hown5 hgrow5 _; have hW5 : Below (w.heap.size + 1) w0 w5 := (hW4.alloc hz4 _).grown hgrow5 (by simp; omega) (fun j hj => (hown4.lt j hj).1); have hz5 : w.heap.size + 1 ≤ w5.heap.size := (show w0.heap.size = w.heap.size + 1 from HS0.out) ▸ hW5.size; have e5 : cellsN (acc ++ [x]) ++ [Value.int .i64 ya, .int .i64 yb, .int .i64 yc] = cellsN (acc ++ [x, y]) := app_cells HY.out (acc ++ [x]) (acc ++ [x, y]) (by simp); have f5 : (acc ++ [x]).length + 1 = (acc ++ [x, y]).length := app_len (M := y) (acc ++ [x]) (acc ++ [x, y]) (by simp); rw [e5, f5] at hown5; clear hgrow5 hown4 e5 f5; clear t0 t1 t2))
            go_roundw
            case rel => exact ⟨k + 1, true, acc ++ [x, y], by omega, by congr 1, rfl, by simp; omega, hown5, HS2, hW5⟩
            case measure => simp only [intOf]; omega
        · have hs2 : insS x (l.take (k + 1)) = (false, acc ++ [y]) := by rw [hst]; unfold ist; rw [if_neg (fun h => hxy h.2)]
          have HS2 := Lib.hid hs2
          have hxy' : decide ((x : Int) < (y : Int)) = false := decide_eq_false (by omega)
          have hxyN : decide (x < y) = false := decide_eq_false hxy
          clear hst hs2
          have hgw : ga < wr.heap.size := by omega
          have hqw : w.heap.size < wr.heap.size := by omega
          go_wp2_with fail
          go_region_with (first
            | (go_at_call 38; (with_reducible refine (snum_of HX.out _).mono ?_); rintro e w2 ⟨rfl, hb2⟩; have c20 := (hb2.cell (p := ⟨ga, k * 3, none⟩) hgw).trans b0; have c21 := (hb2.cell (p := ⟨ga, k * 3 + 1, none⟩) hgw).trans b1; have c22 := (hb2.cell (p := ⟨ga, k * 3 + 2, none⟩) hgw).trans b2)
            | (go_at_call 38; (with_reducible refine (snum_of HY.out _).mono ?_); rintro e w3 ⟨rfl, hb3⟩))
          all_goals
            have bW : Below wr.heap.size wr w3 := by first | exact hb2.trans (hb3.mono hb2.size) | exact ((Below.refl _ wr).drew.trans hb2).trans (hb3.mono hb2.size)
            have hW3 : Below (w.heap.size + 1) w0 w3 := hbw.trans (bW.mono hbs)
            have hz3 := hW3.size
            rw [HS0.out] at hz3
            obtain ⟨r0, r1, r2⟩ := HL.out w3 hW3
            have hown3 := own_below hown bW
            have hl4 : (acc ++ [x]).length ≤ 500 := by simp; omega
            clear b0 b1 b2 q0 q1 q2 c20 c21 c22 hb2 hb3 bW hown
            go_wp2_with (at_builtin; refine wpList_append_own _ rfl _ _ 25 rfl (w.heap.size + 1) 29 i0 (.agg #[.int .i64 0, .int .i64 0, .int .i64 0]) 3 24 Tryd.underlying25 hi hz0 hz1 hz2 rfl (by decide) _ (acc.length) _ rfl (hown3.alloc _) ⟨w3.heap.size, 0, none⟩ 1 1 [.int .i64 ya, .int .i64 yb, .int .i64 yc] rfl rfl (by intro j u hj; match j, hj with | 0, hj => simp at hj; subst hj; simp [Addr.add] | 1, hj => simp at hj; subst hj; simp [Addr.add] | 2, hj => simp at hj; subst hj; simp [Addr.add]) (by intro u hu; simp at hu; rcases hu with rfl | rfl | rfl <;> rfl) (by unfold maxLen; omega) (by omega) (by simp; omega) ?_; intro v4 w4 hown4 hgrow4 _; have hW4 : Below (w.heap.size + 1) w0 w4 := (hW3.alloc hz3 _).grown hgrow4 (by simp; omega) (fun j hj => (hown3.lt j hj).1); have hz4 : w.heap.size + 1 ≤ w4.heap.size := (show w0.heap.size = w.heap.size + 1 from HS0.out) ▸ hW4.size; have e4 : cellsN (acc) ++ [Value.int .i64 ya, .int .i64 yb, .int .i64 yc] = cellsN (acc ++ [y]) := app_cells HY.out (acc) (acc ++ [y]) (by simp); have f4 : (acc).length + 1 = (acc ++ [y]).length := app_len (M := y) acc (acc ++ [y]) (by simp); rw [e4, f4] at hown4; clear hgrow4 hown3 e4 f4; clear r0 r1 r2)
            go_roundw
            case rel => exact ⟨k + 1, false, acc ++ [y], by omega, by congr 1, rfl, by simp; omega, hown4, HS2, hW4⟩
            case measure => simp only [intOf]; omega
      · have hs2 : insS x (l.take (k + 1)) = (true, acc ++ [y]) := by rw [hst]; unfold ist; rw [if_neg (by simp)]
        have HS2 := Lib.hid hs2
        clear hst hs2
        go_wp2_with fail
        go_quiet (fail)
        obtain ⟨w3, hw3⟩ : ∃ w3, w3 = wr.drewN nq := ⟨_, rfl⟩
        have bW : Below wr.heap.size wr w3 := by rw [hw3]; exact below_drewN (Below.refl _ _) _
        rw [← hw3]
        have hW3 : Below (w.heap.size + 1) w0 w3 := hbw.trans (bW.mono hbs)
        have hz3 := hW3.size
        rw [HS0.out] at hz3
        obtain ⟨r0, r1, r2⟩ := HL.out w3 hW3
        have hown3 := own_below hown bW
        clear b0 b1 b2 q0 q1 q2 bW hown hw3
        go_wp2_with (at_builtin; refine wpList_append_own _ rfl _ _ 25 rfl (w.heap.size + 1) 29 i0 (.agg #[.int .i64 0, .int .i64 0, .int .i64 0]) 3 24 Tryd.underlying25 hi hz0 hz1 hz2 rfl (by decide) _ (acc.length) _ rfl (hown3.alloc _) ⟨w3.heap.size, 0, none⟩ 1 1 [.int .i64 ya, .int .i64 yb, .int .i64 yc] rfl rfl (by intro j u hj; match j, hj with | 0, hj => simp at hj; subst hj; simp [Addr.add] | 1, hj => simp at hj; subst hj; simp [Addr.add] | 2, hj => simp at hj; subst hj; simp [Addr.add]) (by intro u hu; simp at hu; rcases hu with rfl | rfl | rfl <;> rfl) (by unfold maxLen; omega) (by omega) (by simp; omega) ?_; intro v4 w4 hown4 hgrow4 _; have hW4 : Below (w.heap.size + 1) w0 w4 := (hW3.alloc hz3 _).grown hgrow4 (by simp; omega) (fun j hj => (hown3.lt j hj).1); have hz4 : w.heap.size + 1 ≤ w4.heap.size := (show w0.heap.size = w.heap.size + 1 from HS0.out) ▸ hW4.size; have e4 : cellsN (acc) ++ [Value.int .i64 ya, .int .i64 yb, .int .i64 yc] = cellsN (acc ++ [y]) := app_cells HY.out (acc) (acc ++ [y]) (by simp); have f4 : (acc).length + 1 = (acc ++ [y]).length := app_len (M := y) acc (acc ++ [y]) (by simp); rw [e4, f4] at hown4; clear hgrow4 hown3 e4 f4; clear r0 r1 r2)
        go_roundw
        case rel => exact ⟨k + 1, true, acc ++ [y], by omega, by congr 1, rfl, by simp; omega, hown4, HS2, hW4⟩
        case measure => simp only [intOf]; omega
    · obtain rfl : k = n := by omega
      have HE : Hid (insS x l = (d, acc)) := by
        have := HK.out
        rw [HN.out, List.take_length] at this
        exact this
      have hbz := hbw.size
      rw [HS0.out] at hbz
      have bw : Below w.heap.size w wr := B0.trans (hbw.mono (by omega))
      obtain ⟨q0, q1, q2⟩ : wr.cell? ⟨w.heap.size, 0, none⟩ = some (.int .i64 xa) ∧ wr.cell? ⟨w.heap.size, 1, none⟩ = some (.int .i64 xb) ∧ wr.cell? ⟨w.heap.size, 2, none⟩ = some (.int .i64 xc) := ⟨(hbw.cell (p := ⟨w.heap.size, 0, none⟩) (Nat.lt_succ_self _)).trans HNW.out.1, (hbw.cell (p := ⟨w.heap.size, 1, none⟩) (Nat.lt_succ_self _)).trans HNW.out.2.1, (hbw.cell (p := ⟨w.heap.size, 2, none⟩) (Nat.lt_succ_self _)).trans HNW.out.2.2⟩
      have hW3 : Below (w.heap.size + 1) w0 wr := hbw
      have hz3 := hbz
      have r0 := trivial
      have r1 := trivial
      have r2 := trivial
      have hlA : acc.length ≤ 400 := by omega
      have hown3 := hown
      clear hown HK
      cases d
      · have hF : insF x l = acc ++ [x] := by unfold insF; rw [HE.out]; rfl
        have HF := Lib.hid hF
        clear hF
        go_wp2_with (at_builtin; refine wpList_append_own _ rfl _ _ 25 rfl (w.heap.size + 1) 29 i0 (.agg #[.int .i64 0, .int .i64 0, .int .i64 0]) 3 24 Tryd.underlying25 hi hz0 hz1 hz2 rfl (by decide) _ (acc.length) _ rfl (hown3.alloc _) ⟨wr.heap.size, 0, none⟩ 1 1 [.int .i64 xa, .int .i64 xb, .int .i64 xc] rfl rfl (by intro j u hj; match j, hj with | 0, hj => simp at hj; subst hj; simp [Addr.add] | 1, hj => simp at hj; subst hj; simp [Addr.add] | 2, hj => simp at hj; subst hj; simp [Addr.add]) (by intro u hu; simp at hu; rcases hu with rfl | rfl | rfl <;> rfl) (by unfold maxLen; omega) (by omega) (by simp; omega) ?_; intro v4 w4 hown4 hgrow4 _; have hW4 : Below (w.heap.size + 1) w0 w4 := (hW3.alloc hz3 _).grown hgrow4 (by simp; omega) (fun j hj => (hown3.lt j hj).1); have hz4 : w.heap.size + 1 ≤ w4.heap.size := (show w0.heap.size = w.heap.size + 1 from HS0.out) ▸ hW4.size; have e4 : cellsN (acc) ++ [Value.int .i64 xa, .int .i64 xb, .int .i64 xc] = cellsN (acc ++ [x]) := app_cells HX.out (acc) (acc ++ [x]) (by simp); have f4 : (acc).length + 1 = (acc ++ [x]).length := app_len (M := x) acc (acc ++ [x]) (by simp); rw [e4, f4] at hown4; clear hgrow4 hown3 e4 f4; clear r0 r1 r2)
        go_ret
        exact ⟨_, rfl, by rw [HF.out]; exact hown4, B0.trans (hW4.mono (by omega))⟩
      · have hF : insF x l = acc := by unfold insF; rw [HE.out]; rfl
        have HF := Lib.hid hF
        clear hF
        go_wp2_with fail
        go_ret
        exact ⟨_, rfl, by rw [HF.out]; exact hown3, bw⟩

end Go.Proofs.YtjdmagackoddaaaDoor
