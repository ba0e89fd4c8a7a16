/- What the law of the candidates stands on: a drawn text, two rows that are alike, and what is true of the candidates. -/
import Derived.Test.YtjdmagackoddaaaDoorRepairI
import Derived.Test.YtjdmagackoddaaaDoorCandSpec
import Derived.Test.YtjdmagackoddaaaDoorCandAsc
import Derived.Test.YtjdmagackoddaaaDoorNearSort
import Derived.Test.YtjdmagackoddaaaDoorNearImpl
import Derived.Test.YtjdmagackoddaaaDoorSameTags
import Derived.Test.YtjdmagackoddaaaDoorBlur
import Derived.Test.YtjdmagackoddaaaDoorDrawAny
import Derived.Test.YtjdmagackoddaaaDoorCode
namespace Go.Proofs.YtjdmagackoddaaaDoor.fnCandidates
open Go.RowKit
set_option linter.unusedVariables false

def tagInts (M : Nat) : List Int := [((tri M).1 : Int), ((tri M).2.1 : Int), ((tri M).2.2 : Int)]
theorem ints_cells (l : List Nat) : cellsN l = (l.flatMap tagInts).map (Value.int .i64) := by
  induction l with
  | nil => rfl
  | cons t ts ih =>
    rw [List.flatMap_cons, List.map_append, ← ih]
    show cellsN (t :: ts) = _
    unfold cellsN
    rw [List.flatMap_cons]
    rfl
theorem row_cells {w : World} {B n : Nat} {v : Value} {xs : List Int} (h : w.ownsRow B 29 3 v n (xs.map (Value.int .i64))) :
    ∃ p cap g, v = .slice p n cap ∧ (0 < n → p = some ⟨g, 0, none⟩ ∧ g < w.heap.size) ∧ ∀ j, j < n * 3 → w.cell? ⟨g, j, none⟩ = some (.int .i64 (xs.getD j 0)) := by
  have hl := h.1
  rw [List.length_map] at hl
  by_cases hn : n = 0
  · subst hn
    rcases h.2 with ⟨rfl, _⟩ | ⟨g, cap, cur, rfl, -⟩
    · exact ⟨_, _, 0, rfl, fun h => absurd h (by omega), fun j hj => absurd hj (by omega)⟩
    · exact ⟨_, _, 0, rfl, fun h => absurd h (by omega), fun j hj => absurd hj (by omega)⟩
  · obtain ⟨g, cap, rfl⟩ : ∃ g cap, v = .slice (some ⟨g, 0, none⟩) n cap := by
      rcases h.2 with ⟨_, h0⟩ | ⟨g, cap, cur, rfl, -⟩
      · exact absurd h0 hn
      · exact ⟨_, _, rfl⟩
    refine ⟨_, _, g, rfl, fun _ => ⟨rfl, (h.lt g rfl).2⟩, fun j hj => ?_⟩
    rw [h.cellAt j hj, List.getElem?_map, List.getElem?_eq_getElem (by omega), List.getD_eq_getElem?_getD, List.getElem?_eq_getElem (by omega)]
    rfl
theorem ints_at3 (l : List Nat) (q : Nat) (hq : q < l.length) : (l.flatMap tagInts).getD (q * 3) 0 = ((tri l[q]).1 : Int) ∧ (l.flatMap tagInts).getD (q * 3 + 1) 0 = ((tri l[q]).2.1 : Int) ∧ (l.flatMap tagInts).getD (q * 3 + 2) 0 = ((tri l[q]).2.2 : Int) := by
  obtain ⟨c0, c1, c2⟩ := cellsN_at l q hq
  rw [ints_cells, List.getElem?_map] at c0 c1 c2
  have f : ∀ (o : Option Int) (x : Int), o.map (Value.int .i64) = some (.int .i64 x) → o.getD 0 = x := by
    intro o x h
    cases o with
    | none => simp at h
    | some y => simp at h; simpa using h
  rw [List.getD_eq_getElem?_getD, List.getD_eq_getElem?_getD, List.getD_eq_getElem?_getD]
  exact ⟨f _ _ c0, f _ _ c1, f _ _ c2⟩


theorem nums_cells (ts : List (Nat × Nat × Nat)) (h : ∀ t ∈ ts, tri (numT t) = t) : ts.flatMap tagCell = ((ts.map numT).flatMap tagInts).map (Value.int .i64) := by
  induction ts with
  | nil => rfl
  | cons t ts ih =>
    rw [List.flatMap_cons, List.map_cons, List.flatMap_cons, List.map_append, ih (fun u hu => h u (by simp [hu]))]
    have e := h t (by simp)
    unfold tagInts
    rw [e]
    rfl

set_option maxRecDepth 100000 in
set_option maxHeartbeats 1000000 in
/-- Two rows that hold the same are found alike, and nothing is written. -/
theorem sameTags_quiet (n : Nat) (hn : n ≤ 1048576) (xs : List Int) (pa pb : Option Addr) (ca cb : Nat) (ga gb : Nat) (w : World)
    (ha : 0 < n → pa = some ⟨ga, 0, none⟩) (hb : 0 < n → pb = some ⟨gb, 0, none⟩)
    (hca : ∀ j, j < n * 3 → w.cell? ⟨ga, j, none⟩ = some (.int .i64 (xs.getD j 0))) (hcb : ∀ j, j < n * 3 → w.cell? ⟨gb, j, none⟩ = some (.int .i64 (xs.getD j 0))) :
    Calls Tryd.prog 12 #[.slice pa n ca, .slice pb n cb] w fun e w' => e = .returned (.bool true) ∧ ∃ m, w' = w.drewN m := by
  have HA := Lib.hid hca
  have HB := Lib.hid hcb
  have PA := Lib.hid ha
  have PB := Lib.hid hb
  clear hca hcb ha hb
  have c3 := cellsTagS
  go_enter Tryd.func12, Tryd.ntmps12
  go_wp2_with fail
  go_loopw [5] (fun v wr => ∃ k q : Nat, k ≤ n ∧ v = .int .i64 (k : Int) ∧ wr = w.drewN q) (fun v _ => n - (intOf v).toNat)
  case atStart => exact ⟨0, 0, by omega, rfl, rfl⟩
  case round =>
    obtain ⟨k, q, hk, rfl, rfl⟩ := hrel
    by_cases hkn : k < n
    · obtain rfl := PA.out (by omega)
      obtain rfl := PB.out (by omega)
      have a0 := HA.out (k * 3) (by omega)
      have a1 := HA.out (k * 3 + 1) (by omega)
      have a2 := HA.out (k * 3 + 2) (by omega)
      have b0 := HB.out (k * 3) (by omega)
      have b1 := HB.out (k * 3 + 1) (by omega)
      have b2 := HB.out (k * 3 + 2) (by omega)
      obtain ⟨x0, hx0⟩ : ∃ x, x = xs.getD (k * 3) 0 := ⟨_, rfl⟩
      obtain ⟨x1, hx1⟩ : ∃ x, x = xs.getD (k * 3 + 1) 0 := ⟨_, rfl⟩
      obtain ⟨x2, hx2⟩ : ∃ x, x = xs.getD (k * 3 + 2) 0 := ⟨_, rfl⟩
      rw [← hx0] at a0 b0
      rw [← hx1] at a1 b1
      rw [← hx2] at a2 b2
      clear hx0 hx1 hx2
      have hk0 : (0 : Int) ≤ (k : Int) := by omega
      have hkl : (k : Int) < (n : Int) := by omega
      obtain ⟨u, hu⟩ : ∃ u, u = w.drewN q := ⟨_, rfl⟩
      have a0' : u.cell? ⟨ga, k * 3, none⟩ = some (.int .i64 x0) := by rw [hu]; exact a0
      have a1' : u.cell? ⟨ga, k * 3 + 1, none⟩ = some (.int .i64 x1) := by rw [hu]; exact a1
      have a2' : u.cell? ⟨ga, k * 3 + 2, none⟩ = some (.int .i64 x2) := by rw [hu]; exact a2
      have b0' : u.cell? ⟨gb, k * 3, none⟩ = some (.int .i64 x0) := by rw [hu]; exact b0
      have b1' : u.cell? ⟨gb, k * 3 + 1, none⟩ = some (.int .i64 x1) := by rw [hu]; exact b1
      have b2' : u.cell? ⟨gb, k * 3 + 2, none⟩ = some (.int .i64 x2) := by rw [hu]; exact b2
      clear a0 a1 a2 b0 b1 b2
      rw [← hu]
      have HU := Lib.hid hu
      clear hu
      go_wp2_with fail
      go_quiet (fail)
      have hu2 : u.drewN nq = w.drewN (q + nq) := by rw [HU.out, World.drewN_drewN]
      go_wp2_with fail
      go_roundw
      case rel => exact ⟨k + 1, q + nq, by omega, by congr 1, by first | exact hu2 | rfl⟩
      case measure => simp only [intOf]; omega
    · obtain rfl : k = n := by omega
      go_wp2_with fail
      go_ret
      exact ⟨rfl, q, rfl⟩

/-- What the law asks of each candidate of the text. -/
def Cnd (l : List UInt8) (M : Nat) : Prop := okN M = true ∧ l.length = 12 ∧ ∀ k, k < 12 → l.getD k 0 ≠ 63 → (txt M).getD k 0 = l.getD k 0
theorem cand_law (l : List UInt8) : ∃ (Ms : List Nat) (ok : Bool), Ms.length ≤ 1000 ∧
    (∀ B w e w', CandPost l B w e w' → ∃ v, e = .returned (.tuple #[v, .bool ok]) ∧ w'.ownsRow B 29 3 v Ms.length ((Ms.flatMap tagInts).map (Value.int .i64)) ∧ Below B w w') ∧
    (∀ M ∈ Ms, Cnd l M) ∧ Ms.Pairwise (fun x y => x < y) ∧
    ((∃ M, Ms = [M] ∧ ok = true ∧ repOf l = some (tri M)) ∨ ((ok = true ∧ Ms.length ≠ 1 ∨ ok = false) ∧ repOf l = none)) := by
  by_cases hf : frm l
  · have ht : ∀ t ∈ cands l, tri (numT t) = t := fun t h => (cand_is hf h).2.1
    refine ⟨(cands l).map numT, true, by rw [List.length_map]; exact cands_le hf, ?_, ?_, ?_, ?_⟩
    · rintro B w e w' ⟨v, n, xs, ok, rfl, hown, hb, ⟨_, rfl, rfl, rfl⟩ | ⟨h, _⟩⟩
      · exact ⟨v, rfl, by rw [← nums_cells _ ht, List.length_map]; exact hown, hb⟩
      · exact absurd hf h
    · intro M hM
      obtain ⟨t, h, rfl⟩ := List.mem_map.1 hM
      exact ⟨(cand_is hf h).1, hf.1, (cand_is hf h).2.2⟩
    · rw [List.pairwise_map]
      exact cands_asc hf
    · by_cases h1 : (cands l).length = 1
      · obtain ⟨t, e⟩ := List.length_eq_one_iff.1 h1
        have := ht t (by rw [e]; simp)
        exact .inl ⟨numT t, by rw [e]; rfl, rfl, by rw [this]; exact repOf_yes hf e⟩
      · exact .inr ⟨.inl ⟨rfl, by rw [List.length_map]; exact h1⟩, repOf_many h1⟩
  · refine ⟨[], false, by simp, ?_, (fun M h => by cases h), List.Pairwise.nil, .inr ⟨.inr rfl, repOf_no hf⟩⟩
    rintro B w e w' ⟨v, n, xs, ok, rfl, hown, hb, ⟨h, _⟩ | ⟨_, rfl, rfl, rfl⟩⟩
    · exact absurd h hf
    · exact ⟨v, rfl, hown, hb⟩

set_option maxHeartbeats 1000000 in
theorem drawCand_any {B n : Nat} {p : Option Addr} {cap gc oc : Nat} {w : World} (hn : n ≤ 1048576) (hB : B ≤ w.heap.size) (hC : Code B n w p gc oc) :
    Calls Tryd.prog 8 #[.slice p n cap] w fun e w' => ∃ s : ByteArray, s.size ≤ 13 ∧ e = .returned (.string s) ∧ Below w.heap.size w w' := by
  have H := Lib.hid hC
  clear hC
  go_enter Tryd.func8, Tryd.ntmps8
  go_wp2_with fail
  refine (new_any (cap := cap) hn hB H.out).mono ?_
  rintro e w1 ⟨g, rfl, hc1, hb1, hg1⟩
  have HB1 := Lib.hid hb1
  have HC1 := Lib.hid hc1
  clear hb1 hc1
  go_wp2_with fail
  refine (blur_any hn HC1.out).mono ?_
  rintro e w2 ⟨s, hs, rfl, -, hg2⟩
  have HB2 := Lib.hid (HB1.out.trans (⟨hg2.os, hg2.tape, hg2.output, hg2.size, fun k hk => hg2.block k (by have := HB1.out.size; omega) (by intro e; injection e with e; omega)⟩ : Below w.heap.size w1 w2))
  clear hg2
  go_wp2_with fail
  go_ret
  exact ⟨s, hs, rfl, HB2.out⟩

theorem byteAt' (s : ByteArray) (i : Nat) (h : i < s.size) : s[i].toNat = (s.data.toList.getD i 0).toNat := by
  rw [List.getD_eq_getElem?_getD, List.getElem?_eq_getElem (by simpa using h)]; rfl


end Go.Proofs.YtjdmagackoddaaaDoor.fnCandidates
