/- The numbers near a number, and how they are sorted: plain facts; no program is named here. -/
import Derived.Test.YtjdmagackoddaaaDoorTagPlain
namespace Go.Proofs.YtjdmagackoddaaaDoor
open Go.RowKit
set_option linter.unusedVariables false

/-! Insertion. -/
def ist (x : Nat) (st : Bool × List Nat) (y : Nat) : Bool × List Nat := if st.1 = false ∧ x < y then (true, st.2 ++ [x, y]) else (st.1, st.2 ++ [y])
def insS (x : Nat) (l : List Nat) : Bool × List Nat := l.foldl (ist x) (false, [])
def insF (x : Nat) (l : List Nat) : List Nat := if (insS x l).1 = true then (insS x l).2 else (insS x l).2 ++ [x]
theorem insS_snoc (x : Nat) (l : List Nat) (y : Nat) : insS x (l ++ [y]) = ist x (insS x l) y := by unfold insS; rw [List.foldl_append]; rfl
theorem insS_len (x : Nat) (l : List Nat) : (insS x l).2.length ≤ 2 * l.length := by
  have : ∀ (l : List Nat) (st : Bool × List Nat), (l.foldl (ist x) st).2.length ≤ st.2.length + 2 * l.length := by
    intro l
    induction l with
    | nil => intro st; simp
    | cons y l ih =>
      intro st
      have := ih (ist x st y)
      rw [List.foldl_cons, List.length_cons]
      have h2 : (ist x st y).2.length ≤ st.2.length + 2 := by unfold ist; split <;> simp
      omega
  have := this l (false, [])
  simpa [insS] using this
theorem fold_true (x : Nat) : ∀ (l : List Nat) (a : List Nat), l.foldl (ist x) (true, a) = (true, a ++ l)
  | [], a => by simp
  | y :: l, a => by
    rw [List.foldl_cons]
    have : ist x (true, a) y = (true, a ++ [y]) := by unfold ist; rw [if_neg (by simp)]
    rw [this, fold_true x l]
    simp
theorem fold_false (x : Nat) : ∀ (l : List Nat) (a : List Nat), (l.foldl (ist x) (false, a) = (false, a ++ l) ∧ ∀ y ∈ l, y ≤ x) ∨ ∃ l1 y l2, l = l1 ++ y :: l2 ∧ (∀ z ∈ l1, z ≤ x) ∧ x < y ∧ l.foldl (ist x) (false, a) = (true, a ++ (l1 ++ x :: y :: l2))
  | [], a => .inl ⟨by simp, fun y hy => by cases hy⟩
  | y :: l, a => by
    rw [List.foldl_cons]
    by_cases h : x < y
    · refine .inr ⟨[], y, l, rfl, (fun z hz => by cases hz), h, ?_⟩
      have : ist x (false, a) y = (true, a ++ [x, y]) := by unfold ist; rw [if_pos ⟨rfl, h⟩]
      rw [this, fold_true]
      simp
    · have e : ist x (false, a) y = (false, a ++ [y]) := by unfold ist; rw [if_neg (fun k => h k.2)]
      rw [e]
      rcases fold_false x l (a ++ [y]) with ⟨h1, h2⟩ | ⟨l1, z, l2, h1, h2, h3, h4⟩
      · refine .inl ⟨by rw [h1]; simp, fun q hq => ?_⟩
        rcases List.mem_cons.1 hq with rfl | hq
        · omega
        · exact h2 q hq
      · refine .inr ⟨y :: l1, z, l2, by rw [h1]; rfl, fun q hq => ?_, h3, by rw [h4]; simp⟩
        rcases List.mem_cons.1 hq with rfl | hq
        · omega
        · exact h2 q hq
theorem ins_cases (x : Nat) (l : List Nat) : (insF x l = l ++ [x] ∧ ∀ y ∈ l, y ≤ x) ∨ ∃ l1 y l2, l = l1 ++ y :: l2 ∧ (∀ z ∈ l1, z ≤ x) ∧ x < y ∧ insF x l = l1 ++ x :: y :: l2 := by
  rcases fold_false x l [] with ⟨h1, h2⟩ | ⟨l1, z, l2, h1, h2, h3, h4⟩
  · refine .inl ⟨?_, h2⟩
    unfold insF insS; rw [h1]; simp
  · refine .inr ⟨l1, z, l2, h1, h2, h3, ?_⟩
    unfold insF insS; rw [h4]; simp
theorem ins_perm (x : Nat) (l : List Nat) : (insF x l).Perm (x :: l) := by
  rcases ins_cases x l with ⟨h, _⟩ | ⟨l1, y, l2, h1, _, _, h⟩
  · rw [h]; exact List.perm_append_singleton x l
  · rw [h, h1]; exact List.perm_middle
theorem ins_sorted (x : Nat) (l : List Nat) (hl : l.Pairwise (· ≤ ·)) : (insF x l).Pairwise (· ≤ ·) := by
  rcases ins_cases x l with ⟨h, h2⟩ | ⟨l1, y, l2, h1, h2, h3, h⟩
  · rw [h, List.pairwise_append]
    exact ⟨hl, List.pairwise_singleton _ _, fun a ha b hb => by rw [List.mem_singleton.1 hb]; exact h2 a ha⟩
  · rw [h]
    rw [h1, List.pairwise_append] at hl
    obtain ⟨p1, p2, p3⟩ := hl
    rw [List.pairwise_append]
    refine ⟨p1, ?_, ?_⟩
    · rw [List.pairwise_cons]
      refine ⟨fun b hb => ?_, p2⟩
      rcases List.mem_cons.1 hb with rfl | hb
      · omega
      · have := (List.pairwise_cons.1 p2).1 b hb; omega
    · intro a ha b hb
      rcases List.mem_cons.1 hb with rfl | hb
      · exact h2 a ha
      · exact p3 a ha b hb
/-- All of a list, one by one. -/
def sortF (l : List Nat) : List Nat := l.foldl (fun acc x => insF x acc) []
theorem sortF_snoc (l : List Nat) (x : Nat) : sortF (l ++ [x]) = insF x (sortF l) := by unfold sortF; rw [List.foldl_append]; rfl
theorem sortF_facts (l : List Nat) : (sortF l).Perm l ∧ (sortF l).Pairwise (· ≤ ·) := by
  have : ∀ (l acc : List Nat), acc.Pairwise (· ≤ ·) → (l.foldl (fun acc x => insF x acc) acc).Perm (acc ++ l) ∧ (l.foldl (fun acc x => insF x acc) acc).Pairwise (· ≤ ·) := by
    intro l
    induction l with
    | nil => intro acc h; simpa using h
    | cons x l ih =>
      intro acc h
      obtain ⟨h1, h2⟩ := ih (insF x acc) (ins_sorted x acc h)
      refine ⟨?_, h2⟩
      rw [List.foldl_cons]
      refine h1.trans ?_
      refine ((ins_perm x acc).append_right l).trans ?_
      simpa using (List.perm_middle (a := x) (l₁ := acc) (l₂ := l)).symm
  simpa [sortF] using this l [] List.Pairwise.nil
theorem sorted_one {l m : List Nat} (h : l.Perm m) (h1 : l.Pairwise (· ≤ ·)) (h2 : m.Pairwise (· ≤ ·)) : l = m :=
  List.Perm.eq_of_pairwise (fun a b _ _ hab hba => Nat.le_antisymm hab hba) h1 h2 h

/-! The digits. -/
def setD (N i d : Nat) : Nat := N - N / 10 ^ (9 - i) % 10 * 10 ^ (9 - i) + d * 10 ^ (9 - i)
theorem split_at (N e : Nat) : N = (N / 10 ^ (e + 1) * 10 + N / 10 ^ e % 10) * 10 ^ e + N % 10 ^ e := by
  have h1 := Nat.div_add_mod N (10 ^ e)
  have h2 := Nat.div_add_mod (N / 10 ^ e) 10
  have h4 : N / 10 ^ (e + 1) = N / 10 ^ e / 10 := by rw [Nat.div_div_eq_div_mul, ← Nat.pow_succ]
  have h3 : N / 10 ^ (e + 1) * 10 + N / 10 ^ e % 10 = N / 10 ^ e := by rw [h4]; omega
  rw [h3, Nat.mul_comm]
  exact h1.symm
theorem setD_eq (N i d : Nat) : setD N i d = (N / 10 ^ (9 - i + 1) * 10 + d) * 10 ^ (9 - i) + N % 10 ^ (9 - i) := by
  have h := split_at N (9 - i)
  unfold setD
  generalize hq : N / 10 ^ (9 - i + 1) = q at *
  generalize hD : N / 10 ^ (9 - i) % 10 = D at *
  generalize hr : N % 10 ^ (9 - i) = r at *
  generalize 10 ^ (9 - i) = p at *
  rw [Nat.add_mul] at h
  rw [Nat.add_mul]
  omega
theorem dg_at (q d r e : Nat) (hr : r < 10 ^ e) (hd : d < 10) : ((q * 10 + d) * 10 ^ e + r) / 10 ^ e % 10 = d := by
  have hp : 0 < 10 ^ e := Nat.pow_pos (by decide)
  rw [Nat.mul_comm, Nat.mul_add_div hp, Nat.div_eq_of_lt hr]
  omega
theorem dg_low (q r e f : Nat) (hf : f < e) : (q * 10 ^ e + r) / 10 ^ f % 10 = r / 10 ^ f % 10 := by
  obtain ⟨k, rfl⟩ : ∃ k, e = f + (k + 1) := ⟨e - f - 1, by omega⟩
  have hp : 0 < 10 ^ f := Nat.pow_pos (by decide)
  rw [Nat.pow_add, Nat.mul_left_comm, Nat.mul_add_div hp, Nat.pow_succ, ← Nat.mul_assoc]
  omega
theorem dg_high (q d r e f : Nat) (hr : r < 10 ^ e) (hd : d < 10) (hf : e < f) : ((q * 10 + d) * 10 ^ e + r) / 10 ^ f = q / 10 ^ (f - e - 1) := by
  obtain ⟨k, rfl⟩ : ∃ k, f = e + (1 + k) := ⟨f - e - 1, by omega⟩
  have hp : 0 < 10 ^ e := Nat.pow_pos (by decide)
  rw [Nat.pow_add, ← Nat.div_div_eq_div_mul, Nat.mul_comm, Nat.mul_add_div hp, Nat.div_eq_of_lt hr, Nat.pow_add, ← Nat.div_div_eq_div_mul]
  rw [show (q * 10 + d + 0) / 10 ^ 1 = q by omega, show e + (1 + k) - e - 1 = k by omega]
theorem setD_digs (N i d : Nat) (hi : i < 10) (hd : d < 10) : digs (setD N i d) = (digs N).set i (dg8 d) := by
  have hr : N % 10 ^ (9 - i) < 10 ^ (9 - i) := Nat.mod_lt _ (Nat.pow_pos (by decide))
  have hD : N / 10 ^ (9 - i) % 10 < 10 := Nat.mod_lt _ (by decide)
  have hN := split_at N (9 - i)
  have hS := setD_eq N i d
  apply List.ext_getElem?
  intro j
  by_cases hj : j < 10
  · have g : ∀ M, (digs M)[j]? = some (UInt8.ofNat (48 + M / 10 ^ (9 - j) % 10)) := fun M => by simp [digs, hj]
    rw [g, List.getElem?_set]
    by_cases e : i = j
    · subst e
      rw [if_pos rfl, if_pos (by rw [digs_length]; exact hi), hS, dg_at _ _ _ _ hr hd]
      unfold dg8
      rw [Nat.mod_eq_of_lt hd]
    · rw [if_neg e, g]
      congr 3
      rw [hS]
      conv => rhs; rw [hN]
      rcases Nat.lt_or_ge (9 - j) (9 - i) with h | h
      · rw [dg_low _ _ _ _ h, dg_low _ _ _ _ h]
      · rw [dg_high _ _ _ _ _ hr hd (by omega), dg_high _ _ _ _ _ hr hD (by omega)]
  · rw [List.getElem?_eq_none (by rw [digs_length]; omega), List.getElem?_eq_none (by rw [List.length_set, digs_length]; omega)]
theorem setD_lt (N i d : Nat) (hN : N ≤ 9999999999) (hi : i < 10) (hd : d < 10) : setD N i d ≤ 9999999999 := by
  have hr : N % 10 ^ (9 - i) < 10 ^ (9 - i) := Nat.mod_lt _ (Nat.pow_pos (by decide))
  have h2 : setD N i d / 10 ^ (9 - i) / 10 ^ (i + 1) = 0 := by
    have hp : 0 < 10 ^ (9 - i) := Nat.pow_pos (by decide)
    rw [setD_eq, Nat.mul_comm, Nat.mul_add_div hp, Nat.div_eq_of_lt hr, Nat.pow_succ 10 i, Nat.mul_comm (10 ^ i) 10, ← Nat.div_div_eq_div_mul, Nat.pow_succ]
    rw [show (N / (10 ^ (9 - i) * 10) * 10 + d + 0) / 10 = N / (10 ^ (9 - i) * 10) by omega, Nat.div_div_eq_div_mul, ← Nat.pow_succ, ← Nat.pow_add]
    rw [show 9 - i + 1 + i = 10 by omega]
    have h10 : (10 : Nat) ^ 10 = 10000000000 := by decide
    rw [h10]
    omega
  rw [Nat.div_div_eq_div_mul, ← Nat.pow_add, show 9 - i + (i + 1) = 10 by omega] at h2
  have h10 : (10 : Nat) ^ 10 = 10000000000 := by decide
  rw [h10] at h2
  omega

/-! The tags near a tag. -/
def tri (M : Nat) : Nat × Nat × Nat := (M / 1000000000, M / 1000000 % 1000, M % 1000000)
def okN (M : Nat) : Bool := decide (M ≤ 9999999999) && decide (1 ≤ M / 1000000 % 1000)
theorem okN_iff {M : Nat} : okN M = true ↔ M ≤ 9999999999 ∧ 1 ≤ M / 1000000 % 1000 := by simp [okN]
def triB (M : Nat) : Bool := tokB ((tri M).1 : Int) ((tri M).2.1 : Int) ((tri M).2.2 : Int)
theorem triB_eq {M : Nat} (h : M ≤ 9999999999) : triB M = okN M := by
  unfold triB tri
  rw [Bool.eq_iff_iff, tokB_iff, okN_iff]
  simp only
  omega
theorem tri_num {M : Nat} (h : okN M = true) : tnum ((tri M).1 : Int) ((tri M).2.1 : Int) ((tri M).2.2 : Int) = (M : Int) := by
  have h2 : tokB ((tri M).1 : Int) ((tri M).2.1 : Int) ((tri M).2.2 : Int) = true := by
    show triB M = true
    rw [triB_eq (okN_iff.1 h).1]; exact h
  unfold tnum
  rw [if_pos h2]
  unfold tri
  simp only
  omega
theorem tri_chk {M : Nat} (h : okN M = true) : tchk ((tri M).1 : Int) ((tri M).2.1 : Int) ((tri M).2.2 : Int) = ((M % 7 : Nat) : Int) := by
  have h2 : tokB ((tri M).1 : Int) ((tri M).2.1 : Int) ((tri M).2.2 : Int) = true := by
    show triB M = true
    rw [triB_eq (okN_iff.1 h).1]; exact h
  have hn := tri_num h
  unfold tnum at hn
  rw [if_pos h2] at hn
  unfold tchk
  rw [if_pos h2, hn]
  omega
def hit (N M : Nat) : Bool := decide (M ≠ N) && okN M && decide (M % 7 = N % 7)
/-- The first k of the hundred numbers, those that count. -/
def nearTo (N k : Nat) : List Nat := ((List.range k).map fun j => setD N (j / 10) (j % 10)).filter (hit N)
theorem nearTo_succ (N k : Nat) : nearTo N (k + 1) = nearTo N k ++ (if hit N (setD N (k / 10) (k % 10)) = true then [setD N (k / 10) (k % 10)] else []) := by
  unfold nearTo
  rw [List.range_succ, List.map_append, List.filter_append]
  by_cases h : hit N (setD N (k / 10) (k % 10)) = true <;> simp [h]
theorem nearTo_len (N k : Nat) : (nearTo N k).length ≤ k := by
  unfold nearTo
  have := List.length_filter_le (hit N) ((List.range k).map fun j => setD N (j / 10) (j % 10))
  simpa using this
theorem nearTo_ok {N k M : Nat} (h : M ∈ nearTo N k) : okN M = true ∧ M ≠ N := by
  have := (List.mem_filter.1 h).2
  unfold hit at this
  simp only [Bool.and_eq_true, decide_eq_true_eq] at this
  exact ⟨this.1.2, this.1.1⟩
theorem sortF_ok {l : List Nat} (h : ∀ M ∈ l, okN M = true) : ∀ M ∈ sortF l, okN M = true := fun M hM => h M ((sortF_facts l).1.mem_iff.1 hM)

/-- The text of a tag's number with a '?' at i. -/
def holed (N i : Nat) : List UInt8 := (digs N).set i 63 ++ [45, UInt8.ofNat (48 + N % 7)]
theorem ftext_tri {M : Nat} (h : okN M = true) : ftext ((tri M).1 : Int) ((tri M).2.1 : Int) ((tri M).2.2 : Int) = digs M ++ [45, UInt8.ofNat (48 + M % 7)] := by
  have h2 : tokB ((tri M).1 : Int) ((tri M).2.1 : Int) ((tri M).2.2 : Int) = true := by
    show triB M = true
    rw [triB_eq (okN_iff.1 h).1]; exact h
  unfold ftext
  rw [if_pos h2, tri_num h, tri_chk h, Int.toNat_natCast, Int.toNat_natCast]
theorem holed_len (N i : Nat) : (holed N i).length = 12 := by simp [holed, digs_length]
theorem holed_low (N i j : Nat) (hj : j < 10) : (holed N i).getD j 0 = if i = j then 63 else UInt8.ofNat (48 + N / 10 ^ (9 - j) % 10) := by
  unfold holed
  rw [List.getD_eq_getElem?_getD, List.getElem?_append_left (by rw [List.length_set, digs_length]; exact hj), List.getElem?_set]
  by_cases e : i = j
  · subst e; rw [if_pos rfl, if_pos (by rw [digs_length]; exact hj), if_pos rfl]; rfl
  · rw [if_neg e, if_neg e]; simp [digs, hj]
theorem holed_10 (N i : Nat) : (holed N i).getD 10 0 = 45 := by
  unfold holed
  rw [List.getD_eq_getElem?_getD, List.getElem?_append_right (by rw [List.length_set, digs_length]; omega), List.length_set, digs_length]; rfl
theorem holed_11 (N i : Nat) : (holed N i).getD 11 0 = UInt8.ofNat (48 + N % 7) := by
  unfold holed
  rw [List.getD_eq_getElem?_getD, List.getElem?_append_right (by rw [List.length_set, digs_length]; omega), List.length_set, digs_length]; rfl
theorem u8_dig {d : Nat} (h : d < 10) : (UInt8.ofNat (48 + d)).toNat = 48 + d := by simp only [UInt8.toNat_ofNat']; omega
theorem holed_isQ (N i j : Nat) (hi : i < 10) (hj : j < 12) : isQ (holed N i) j = decide (i = j) := by
  have h48 : ∀ d, d < 10 → UInt8.ofNat (48 + d) ≠ 63 := fun d hd e => by
    have := u8_dig hd; rw [e] at this; have h63 : (63 : UInt8).toNat = 63 := rfl
    omega
  unfold isQ
  by_cases hj10 : j < 10
  · rw [holed_low N i j hj10]
    by_cases e : i = j
    · rw [if_pos e]; simp [e]
    · rw [if_neg e]
      have := h48 (N / 10 ^ (9 - j) % 10) (Nat.mod_lt _ (by decide))
      rw [decide_eq_false e, beq_eq_false_iff_ne]; exact this
  · by_cases e : j = 10
    · subst e; rw [holed_10]
      have : ¬ i = 10 := by omega
      simp [this]
    · obtain rfl : j = 11 := by omega
      rw [holed_11]
      have := h48 (N % 7) (by omega)
      have h2 : ¬ i = 11 := by omega
      rw [decide_eq_false h2, beq_eq_false_iff_ne]; exact this
theorem holed_places (N i : Nat) (hi : i < 10) : placesTo (holed N i) 12 = [i] := by
  unfold placesTo
  have e : (List.range 12).filter (isQ (holed N i)) = (List.range 12).filter fun j => decide (i = j) := by
    apply List.filter_congr
    intro j hj
    exact holed_isQ N i j hi (List.mem_range.1 hj)
  rw [e]
  have : ∀ i : Fin 10, (List.range 12).filter (fun j => decide (i.val = j)) = [i.val] := by decide
  exact this ⟨i, hi⟩
theorem holed_frm (N i : Nat) (hi : i < 10) : frm (holed N i) := by
  refine ⟨holed_len N i, holed_10 N i, fun j hj hne => ?_, by rw [holed_places N i hi]; simp⟩
  by_cases hj10 : j < 10
  · rw [holed_low N i j hj10]
    by_cases e : i = j
    · rw [if_pos e]; exact .inl rfl
    · rw [if_neg e]
      right
      have := u8_dig (Nat.mod_lt (N / 10 ^ (9 - j)) (show 10 > 0 by decide))
      unfold isD; omega
  · obtain rfl : j = 11 := by omega
    rw [holed_11]
    right
    have := u8_dig (show N % 7 < 10 by omega)
    unfold isD; omega
theorem holed_set (N i d : Nat) (hi : i < 10) (hd : d < 10) : (holed N i).set i (dg8 d) = digs (setD N i d) ++ [45, UInt8.ofNat (48 + N % 7)] := by
  unfold holed
  rw [List.set_append, if_pos (by rw [List.length_set, digs_length]; exact hi), List.set_set, setD_digs N i d hi hd]
theorem tagOf_set (N i d : Nat) (hN : N ≤ 9999999999) (hi : i < 10) (hd : d < 10) : tagOf ((holed N i).set i (dg8 d)) = if okN (setD N i d) = true ∧ setD N i d % 7 = N % 7 then some (tri (setD N i d)) else none := by
  rw [holed_set N i d hi hd]
  have hM := setD_lt N i d hN hi hd
  generalize setD N i d = M at *
  have h10 : (10 : Nat) ^ 10 = 10000000000 := by decide
  have ht : (digs M ++ [45, UInt8.ofNat (48 + N % 7)]).take 10 = digs M := by
    rw [List.take_append_of_le_length (by rw [digs_length]; exact Nat.le_refl _), List.take_of_length_le (by rw [digs_length]; exact Nat.le_refl _)]
  unfold tagOf
  simp only [ht, digs_num M (by omega)]
  by_cases h : okN M = true
  · have hf := ftext_tri h
    unfold tri at hf
    simp only at hf
    rw [hf]
    by_cases h7 : M % 7 = N % 7
    · rw [if_pos (by rw [h7]), if_pos ⟨h, h7⟩]; rfl
    · rw [if_neg, if_neg (fun k => h7 k.2)]
      intro e
      have := List.append_cancel_left e
      simp only [List.cons.injEq, and_true, true_and] at this
      have h1 := u8_dig (show M % 7 < 10 by omega)
      have h2 := u8_dig (show N % 7 < 10 by omega)
      rw [this] at h1
      omega
  · rw [if_neg, if_neg (fun k => h k.1)]
    intro e
    have h2 : triB M = false := by rw [triB_eq hM]; simpa using h
    unfold triB tri at h2
    simp only at h2
    unfold ftext at e
    rw [h2, if_neg (by decide)] at e
    have := congrArg List.length e
    simp at this
/-- The candidates of such a text are the numbers near that have the check. -/
theorem cands_holed (N i : Nat) (hN : N ≤ 9999999999) (hi : i < 10) : cands (holed N i) = (((List.range 10).map fun d => setD N i d).filter fun M => okN M && decide (M % 7 = N % 7)).map tri := by
  unfold cands
  rw [holed_places N i hi, fills]
  have e : ∀ l : List Nat, (∀ d ∈ l, d < 10) → (l.flatMap fun d => fills [] ((holed N i).set i (dg8 d))).filterMap tagOf = ((l.map fun d => setD N i d).filter fun M => okN M && decide (M % 7 = N % 7)).map tri := by
    intro l
    induction l with
    | nil => intro _; rfl
    | cons d l ih =>
      intro h
      have hd := h d (by simp)
      rw [List.flatMap_cons, fills, List.filterMap_append, ih (fun x hx => h x (by simp [hx])), List.map_cons, List.filter_cons, List.filterMap_cons, List.filterMap_nil, tagOf_set N i d hN hi hd]
      by_cases h1 : okN (setD N i d) = true <;> by_cases h2 : setD N i d % 7 = N % 7 <;> simp [h1, h2]
  exact e _ (fun d hd => List.mem_range.1 hd)
/-- Ten further. -/
theorem nearTo_ten (N i : Nat) : nearTo N (10 * (i + 1)) = nearTo N (10 * i) ++ (((List.range 10).map fun d => setD N i d).filter fun M => okN M && decide (M % 7 = N % 7)).filter fun M => decide (M ≠ N) := by
  unfold nearTo
  rw [Nat.mul_add, Nat.mul_one, List.range_add, List.map_append, List.filter_append]
  congr 1
  rw [List.map_map, List.filter_filter]
  have e : ((List.range 10).map ((fun j => setD N (j / 10) (j % 10)) ∘ fun x => 10 * i + x)) = (List.range 10).map fun d => setD N i d := by
    apply List.map_congr_left
    intro d hd
    have := List.mem_range.1 hd
    simp only [Function.comp]
    rw [show (10 * i + d) / 10 = i by omega, show (10 * i + d) % 10 = d by omega]
  rw [e]
  apply List.filter_congr
  intro M _
  unfold hit
  rw [Bool.and_assoc]

end Go.Proofs.YtjdmagackoddaaaDoor
