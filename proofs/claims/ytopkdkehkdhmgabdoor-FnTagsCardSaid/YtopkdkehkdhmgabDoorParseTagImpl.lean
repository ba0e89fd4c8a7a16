/- What the program's ParseTag returns. -/
import Derived.Test.YtopkdkehkdhmgabDoorTagPlain
import Derived.Test.YtopkdkehkdhmgabDoorFormatTagImpl
import Derived.Test.YtopkdkehkdhmgabDoorLaidErr
import Derived.Test.YtopkdkehkdhmgabDoorOfNum
import Derived.Test.YtopkdkehkdhmgabDoorShelf
namespace Go.Proofs.YtopkdkehkdhmgabDoor
open Go.RowKit
set_option linter.unusedVariables false

theorem new_cell (w : World) (vs : Array Value) (t i : Nat) (v : Value) (h : vs[i]? = some v) : (w.alloc (.cells vs t)).cell? ⟨w.heap.size, i, none⟩ = some v := by
  have hn := heap_alloc_new w (.cells vs t)
  unfold World.cell?
  rw [hn]
  exact h
/-- The three cells of a struct's result, when it is stored. -/
theorem three_cells {w : World} {k : Nat} {x y z : Value} (a b c : Value) (h0 : w.cell? ⟨k, 0, none⟩ = some x) (h1 : w.cell? ⟨k, 1, none⟩ = some y) (h2 : w.cell? ⟨k, 2, none⟩ = some z) :
    (w.setCell ⟨k, 0, none⟩ a).cell? ⟨k, 0, none⟩ = some a ∧ ((w.setCell ⟨k, 0, none⟩ a).setCell ⟨k, 1, none⟩ b).cell? ⟨k, 1, none⟩ = some b ∧ (((w.setCell ⟨k, 0, none⟩ a).setCell ⟨k, 1, none⟩ b).setCell ⟨k, 2, none⟩ c).cell? ⟨k, 2, none⟩ = some c := by
  refine ⟨World.cell?_setCell_same w _ _ h0, World.cell?_setCell_same _ _ _ (by rw [World.cell?_setCell_other w _ _ _ (by simp)]; exact h1), World.cell?_setCell_same _ _ _ (by rw [World.cell?_setCell_other _ _ _ _ (by simp), World.cell?_setCell_other w _ _ _ (by simp)]; exact h2)⟩

/-- For a number that is not negative, as big as it may be. -/
theorem tagNum_big (N : Nat) (hN : N ≤ 9223372036854775807) (a b c : Int) (ha : a = ((N / 1000000000 : Nat) : Int)) (hb : b = ((N / 1000000 % 1000 : Nat) : Int)) (hc : c = ((N % 1000000 : Nat) : Int)) (w : World) :
    Calls Tryd.prog 43 #[.int .i64 N] w fun e w' => e = .returned (.agg #[.int .i64 a, .int .i64 b, .int .i64 c]) ∧ Below w.heap.size w w' := by
  obtain rfl : a = (N : Int) / 1000000000 := by omega
  obtain rfl : b = (N : Int) / 1000000 % 1000 := by omega
  obtain rfl : c = (N : Int) % 1000000 := by omega
  clear ha hb hc
  go_enter Tryd.func43, Tryd.ntmps43
  go_wp2
  refine bodyPost_ret (v := .agg #[.int .i64 ((N : Int) / 1000000000), .int .i64 ((N : Int) / 1000000 % 1000), .int .i64 ((N : Int) % 1000000)]) (by simp [results, Tryd.results43, go_sem]) rfl ⟨rfl, ?_⟩
  repeat (first | exact Below.refl _ _ | refine Below.alloc ?_ (by simp <;> omega) _ | refine Below.setCell ?_ (by simp) _ | refine Below.drew ?_)

theorem tagNum_neg (M : Nat) (h0 : 0 < M) (hM : M ≤ 9223372036854775808) (w : World) :
    Calls Tryd.prog 43 #[.int .i64 (-(M : Int))] w fun e w' => ∃ a b c : Int, e = .returned (.agg #[.int .i64 a, .int .i64 b, .int .i64 c]) ∧ b ≤ 0 ∧ Below w.heap.size w w' := by
  go_enter Tryd.func43, Tryd.ntmps43
  go_wp2
  refine bodyPost_ret (v := .agg #[.int .i64 (-((M : Int) / 1000000000)), .int .i64 (-((M : Int) / 1000000 % 1000)), .int .i64 (-((M : Int) % 1000000))]) (by simp [results, Tryd.results43, go_sem]) rfl ⟨_, _, _, rfl, by omega, ?_⟩
  repeat (first | exact Below.refl _ _ | refine Below.alloc ?_ (by simp <;> omega) _ | refine Below.setCell ?_ (by simp) _ | refine Below.drew ?_)

theorem tagNum_gen (v : Int) (h0 : -9223372036854775808 ≤ v) (h1 : v ≤ 9223372036854775807) (w : World) :
    Calls Tryd.prog 43 #[.int .i64 v] w fun e w' => ∃ a b c : Int, e = .returned (.agg #[.int .i64 a, .int .i64 b, .int .i64 c]) ∧ Below w.heap.size w w' := by
  by_cases h : 0 ≤ v
  · obtain ⟨N, rfl⟩ := Int.eq_ofNat_of_zero_le h
    refine (tagNum_big N (by omega) _ _ _ rfl rfl rfl w).mono ?_
    rintro e w' ⟨rfl, hb⟩
    exact ⟨_, _, _, rfl, hb⟩
  · obtain ⟨M, hM⟩ : ∃ M : Nat, v = -(M : Int) := ⟨(-v).toNat, by omega⟩
    subst hM
    refine (tagNum_neg M (by omega) (by omega) w).mono ?_
    rintro e w' ⟨a, b, c, rfl, _, hb⟩
    exact ⟨_, _, _, rfl, hb⟩

theorem take_ten (s : ByteArray) : (s.extract 0 10).data.toList = s.data.toList.take 10 := by simp

/-- What ParseTag returns for a text. -/
def ptans (l : List UInt8) : Option (Nat × Nat × Nat) := if l.length = 12 then tagOf l else none
def ptv : Option (Nat × Nat × Nat) → Value
  | some t => .tuple #[.agg (tagCell t).toArray, .bool true]
  | none => .tuple #[.agg #[.int .i64 0, .int .i64 0, .int .i64 0], .bool false]

set_option maxHeartbeats 1000000 in
theorem ptag_ok (s : ByteArray) (h12 : s.size = 12) (N : Nat) (hN : N ≤ 9999999999) (ha : Lib.atoiAll (s.data.toList.take 10) = .ok (N : Int)) (a b c : Int) (h1 : a = ((N / 1000000000 : Nat) : Int)) (h2 : b = ((N / 1000000 % 1000 : Nat) : Int)) (h3 : c = ((N % 1000000 : Nat) : Int)) (hf : ftext a b c = s.data.toList) (w : World) (htab : Lib.TabIs Tryd.prog w "internal/strconv.uint64pow10" .u64 Lib.pow10Tab) :
    Calls Tryd.prog 20 #[.string s] w fun e w' => e = .returned (.tuple #[.agg #[.int .i64 a, .int .i64 b, .int .i64 c], .bool true]) ∧ Below w.heap.size w w' := by
  have hT := Lib.hid (Lib.tabBelow_of_tabIs htab)
  clear htab
  rw [← take_ten] at ha
  have HA := Lib.hid ha
  have HF := Lib.hid hf
  have H1 := Lib.hid h1
  have H2 := Lib.hid h2
  have H3 := Lib.hid h3
  have hxs : (s.extract 0 10).size ≤ 12 := by simp; omega
  clear ha hf h1 h2 h3
  go_enter Tryd.func20, Tryd.ntmps20
  go_wp2_with fail
  refine (Tryd.strconv_Atoi_ok (s.extract 0 10) (by omega) N HA.out _).mono ?_
  rintro e w1 ⟨rfl, hh⟩
  have hb1 : Below (w.alloc (.cells #[.int .i64 0, .int .i64 0, .int .i64 0] 36)).heap.size (w.alloc (.cells #[.int .i64 0, .int .i64 0, .int .i64 0] 36)) w1 := by
    rcases hh with rfl | ⟨t, rfl⟩
    · exact Below.refl _ _
    · exact Lib.bytesWorld_below _ _ _
  clear hh
  obtain ⟨hc1, hf1⟩ := bcell hb1
  have s1 : w.heap.size < w1.heap.size := by have := hb1.size; simp at this; omega
  have b1 : Below w.heap.size w w1 := ((Below.refl _ _).alloc (Nat.le_refl _) _).trans (hb1.mono (by simp))
  go_wp2_with fail
  refine (tagNum_any N hN a b c H1.out H2.out H3.out _).mono ?_
  rintro e w2 ⟨rfl, hb2⟩
  obtain ⟨hc2, hf2⟩ := bcell hb2
  have s2 : w.heap.size < w2.heap.size := Nat.lt_of_lt_of_le s1 hb2.size
  have b2 : Below w.heap.size w w2 := b1.trans (hb2.mono (Nat.le_of_lt s1))
  go_wp2_with fail
  refine (implFmt_any a b c _ (hT.out _ (b2.alloc (Nat.le_of_lt s2) _))).mono ?_
  rw [HF.out]
  rintro e w3 ⟨rfl, hb3⟩
  obtain ⟨hc3, hf3⟩ := bcell hb3
  have s3 : w.heap.size < w3.heap.size := by have := hb3.size; simp at this; omega
  have b3 : Below w.heap.size w w3 := (b2.alloc (Nat.le_of_lt s2) _).trans (hb3.mono (by simp; omega))
  go_wp2
  have qq : ∀ i, i < 3 → w3.cell? ⟨w.heap.size, i, none⟩ = some (.int .i64 0) := fun i hi => (hc3 _ _ (by simp; omega)).trans ((((Below.refl _ w2).alloc (Nat.le_refl _) _).cell (p := ⟨_, i, none⟩) s2).trans ((hc2 _ _ s1).trans ((hc1 _ _ (by simp)).trans (new_cell w #[.int .i64 0, .int .i64 0, .int .i64 0] _ i _ (by rcases i with _ | _ | _ | i <;> first | rfl | omega)))))
  obtain ⟨q0, q1, q2⟩ := three_cells (.int .i64 a) (.int .i64 b) (.int .i64 c) (qq 0 (by omega)) (qq 1 (by omega)) (qq 2 (by omega))
  refine bodyPost_ret (v := .tuple #[.agg #[.int .i64 a, .int .i64 b, .int .i64 c], .bool true]) (by simp [results, Tryd.results20, go_sem, *]) rfl ⟨rfl, ?_⟩
  repeat (first | exact b3 | refine Below.setCell ?_ (by simp) _ | refine Below.drew ?_)

set_option maxHeartbeats 1000000 in
theorem ptag_not (s : ByteArray) (h12 : s.size = 12) (v : Int) (ha : Lib.atoiAll (s.data.toList.take 10) = .ok v) (hf : ∀ a b c : Int, ftext a b c ≠ s.data.toList) (w : World) (htab : Lib.TabIs Tryd.prog w "internal/strconv.uint64pow10" .u64 Lib.pow10Tab) :
    Calls Tryd.prog 20 #[.string s] w fun e w' => e = .returned (.tuple #[.agg #[.int .i64 0, .int .i64 0, .int .i64 0], .bool false]) ∧ Below w.heap.size w w' := by
  have hT := Lib.hid (Lib.tabBelow_of_tabIs htab)
  clear htab
  obtain ⟨v0, v1⟩ := Lib.atoiAll_bounds ha
  rw [← take_ten] at ha
  have HA := Lib.hid ha
  have HF := Lib.hid hf
  have hxs : (s.extract 0 10).size ≤ 12 := by simp; omega
  clear ha hf
  go_enter Tryd.func20, Tryd.ntmps20
  go_wp2_with fail
  refine (Tryd.strconv_Atoi_ok (s.extract 0 10) (by omega) v HA.out _).mono ?_
  rintro e w1 ⟨rfl, hh⟩
  have hb1 : Below (w.alloc (.cells #[.int .i64 0, .int .i64 0, .int .i64 0] 36)).heap.size (w.alloc (.cells #[.int .i64 0, .int .i64 0, .int .i64 0] 36)) w1 := by
    rcases hh with rfl | ⟨t, rfl⟩
    · exact Below.refl _ _
    · exact Lib.bytesWorld_below _ _ _
  clear hh
  obtain ⟨hc1, hf1⟩ := bcell hb1
  have s1 : w.heap.size < w1.heap.size := by have := hb1.size; simp at this; omega
  have b1 : Below w.heap.size w w1 := ((Below.refl _ _).alloc (Nat.le_refl _) _).trans (hb1.mono (by simp))
  go_wp2_with fail
  refine (tagNum_gen v v0 v1 _).mono ?_
  rintro e w2 ⟨a, b, c, rfl, hb2⟩
  obtain ⟨hc2, hf2⟩ := bcell hb2
  have s2 : w.heap.size < w2.heap.size := Nat.lt_of_lt_of_le s1 hb2.size
  have b2 : Below w.heap.size w w2 := b1.trans (hb2.mono (Nat.le_of_lt s1))
  obtain ⟨l, hl⟩ : ∃ l, l = ftext a b c := ⟨_, rfl⟩
  have hcmp : (l == s.toList) = false := by rw [ByteArray.toList_eq]; exact beq_eq_false_iff_ne.2 (by rw [hl]; exact HF.out a b c)
  have HL := Lib.hid hl
  clear hl
  go_wp2_with fail
  refine (implFmt_any a b c _ (hT.out _ (b2.alloc (Nat.le_of_lt s2) _))).mono ?_
  rw [← HL.out]
  rintro e w3 ⟨rfl, hb3⟩
  obtain ⟨hc3, hf3⟩ := bcell hb3
  have s3 : w.heap.size < w3.heap.size := by have := hb3.size; simp at this; omega
  have b3 : Below w.heap.size w w3 := (b2.alloc (Nat.le_of_lt s2) _).trans (hb3.mono (by simp; omega))
  go_wp2
  have qq : ∀ i, i < 3 → w3.cell? ⟨w.heap.size, i, none⟩ = some (.int .i64 0) := fun i hi => (hc3 _ _ (by simp; omega)).trans ((((Below.refl _ w2).alloc (Nat.le_refl _) _).cell (p := ⟨_, i, none⟩) s2).trans ((hc2 _ _ s1).trans ((hc1 _ _ (by simp)).trans (new_cell w #[.int .i64 0, .int .i64 0, .int .i64 0] _ i _ (by rcases i with _ | _ | _ | i <;> first | rfl | omega)))))
  obtain ⟨q0, q1, q2⟩ := three_cells (.int .i64 0) (.int .i64 0) (.int .i64 0) (qq 0 (by omega)) (qq 1 (by omega)) (qq 2 (by omega))
  refine bodyPost_ret (v := .tuple #[.agg #[.int .i64 0, .int .i64 0, .int .i64 0], .bool false]) (by simp [results, Tryd.results20, go_sem, *]) rfl ⟨rfl, ?_⟩
  repeat (first | exact b3 | refine Below.setCell ?_ (by simp) _ | refine Below.drew ?_)

set_option maxHeartbeats 1000000 in
theorem ptag_err (s : ByteArray) (h12 : s.size = 12) (ha : ∀ v, Lib.atoiAll (s.data.toList.take 10) ≠ .ok v) (w : World)
    (tp : TypeId) (p : Value) (hrng : w.var? Tryd.prog "strconv.ErrRange" = some #[.iface tp p]) (tq : TypeId) (q : Value) (hsyn : w.var? Tryd.prog "strconv.ErrSyntax" = some #[.iface tq q]) :
    Calls Tryd.prog 20 #[.string s] w fun e w' => e = .returned (.tuple #[.agg #[.int .i64 0, .int .i64 0, .int .i64 0], .bool false]) ∧ Below w.heap.size w w' := by
  rw [← take_ten] at ha
  have hxs : (s.extract 0 10).size ≤ 12 := by simp; omega
  obtain ⟨W, hW⟩ : ∃ W, W = w.alloc (.cells #[.int .i64 0, .int .i64 0, .int .i64 0] 36) := ⟨_, rfl⟩
  have bW : Below w.heap.size w W := by rw [hW]; exact (Below.refl _ _).alloc (Nat.le_refl _) _
  have HR := Lib.hid ((ErrIs.on ⟨tp, p, hrng⟩ gRng bW : ErrIs W "strconv.ErrRange"))
  have HS := Lib.hid ((ErrIs.on ⟨tq, q, hsyn⟩ gSyn bW : ErrIs W "strconv.ErrSyntax"))
  clear hrng hsyn bW
  subst hW
  cases h : Lib.atoiAll (s.extract 0 10).data.toList
  · rename_i v
    exact absurd h (ha v)
  · have H := Lib.hid h
    clear h ha
    go_enter Tryd.func20, Tryd.ntmps20
    go_wp2_with fail
    obtain ⟨tq, q, HQ⟩ := HS.out
    refine (Any.strconv_Atoi_syntax_var Tryd.laysC172 (s.extract 0 10) (by omega) H.out tq q _ HQ).mono ?_
    rintro e w1 ⟨M, rfl, -, -, hb1⟩
    obtain ⟨hc1, hf1⟩ := bcell hb1
    have s1 : w.heap.size < w1.heap.size := by have := hb1.size; simp at this; omega
    have b1 : Below w.heap.size w w1 := ((Below.refl _ _).alloc (Nat.le_refl _) _).trans (hb1.mono (by simp))
    clear HQ HS HR
    go_wp2_with fail
    refine (tagNum_gen 0 (by omega) (by omega) _).mono ?_
    rintro e w2 ⟨a, b, c, rfl, hb2⟩
    obtain ⟨hc2, hf2⟩ := bcell hb2
    have s2 : w.heap.size < w2.heap.size := Nat.lt_of_lt_of_le s1 hb2.size
    have b2 : Below w.heap.size w w2 := b1.trans (hb2.mono (Nat.le_of_lt s1))
    go_wp2
    have qq : ∀ i, i < 3 → (w2.alloc (.cells #[.int .i64 a, .int .i64 b, .int .i64 c] 36)).cell? ⟨w.heap.size, i, none⟩ = some (.int .i64 0) := fun i hi => (((Below.refl _ w2).alloc (Nat.le_refl _) _).cell (p := ⟨_, i, none⟩) s2).trans ((hc2 _ _ s1).trans ((hc1 _ _ (by simp)).trans (new_cell w #[.int .i64 0, .int .i64 0, .int .i64 0] _ i _ (by rcases i with _ | _ | _ | i <;> first | rfl | omega))))
    obtain ⟨q0, q1, q2⟩ := three_cells (.int .i64 0) (.int .i64 0) (.int .i64 0) (qq 0 (by omega)) (qq 1 (by omega)) (qq 2 (by omega))
    refine bodyPost_ret (v := .tuple #[.agg #[.int .i64 0, .int .i64 0, .int .i64 0], .bool false]) (by simp [results, Tryd.results20, go_sem, *]) rfl ⟨rfl, ?_⟩
    repeat (first | exact b2 | exact b2.alloc (Nat.le_of_lt s2) _ | refine Below.setCell ?_ (by simp) _ | refine Below.alloc ?_ (by simp; omega) _ | refine Below.drew ?_)
  · have H := Lib.hid h
    clear h ha
    obtain ⟨v, hv⟩ : ∃ v, v = Lib.atoiSat (s.extract 0 10).data.toList := ⟨_, rfl⟩
    have hvb : -9223372036854775808 ≤ v ∧ v ≤ 9223372036854775807 := by rw [hv]; unfold Lib.atoiSat; split <;> omega
    obtain ⟨v0, v1⟩ := hvb
    have HV := Lib.hid hv
    clear hv
    go_enter Tryd.func20, Tryd.ntmps20
    go_wp2_with fail
    obtain ⟨tp, p, HQ⟩ := HR.out
    refine (Any.strconv_Atoi_range_var Tryd.laysC172 (s.extract 0 10) (by omega) H.out tp p _ HQ).mono ?_
    rw [← HV.out]
    rintro e w1 ⟨M, rfl, -, -, hb1⟩
    obtain ⟨hc1, hf1⟩ := bcell hb1
    have s1 : w.heap.size < w1.heap.size := by have := hb1.size; simp at this; omega
    have b1 : Below w.heap.size w w1 := ((Below.refl _ _).alloc (Nat.le_refl _) _).trans (hb1.mono (by simp))
    clear HQ HS HR
    go_wp2_with fail
    refine (tagNum_gen v v0 v1 _).mono ?_
    rintro e w2 ⟨a, b, c, rfl, hb2⟩
    obtain ⟨hc2, hf2⟩ := bcell hb2
    have s2 : w.heap.size < w2.heap.size := Nat.lt_of_lt_of_le s1 hb2.size
    have b2 : Below w.heap.size w w2 := b1.trans (hb2.mono (Nat.le_of_lt s1))
    go_wp2
    have qq : ∀ i, i < 3 → (w2.alloc (.cells #[.int .i64 a, .int .i64 b, .int .i64 c] 36)).cell? ⟨w.heap.size, i, none⟩ = some (.int .i64 0) := fun i hi => (((Below.refl _ w2).alloc (Nat.le_refl _) _).cell (p := ⟨_, i, none⟩) s2).trans ((hc2 _ _ s1).trans ((hc1 _ _ (by simp)).trans (new_cell w #[.int .i64 0, .int .i64 0, .int .i64 0] _ i _ (by rcases i with _ | _ | _ | i <;> first | rfl | omega))))
    obtain ⟨q0, q1, q2⟩ := three_cells (.int .i64 0) (.int .i64 0) (.int .i64 0) (qq 0 (by omega)) (qq 1 (by omega)) (qq 2 (by omega))
    refine bodyPost_ret (v := .tuple #[.agg #[.int .i64 0, .int .i64 0, .int .i64 0], .bool false]) (by simp [results, Tryd.results20, go_sem, *]) rfl ⟨rfl, ?_⟩
    repeat (first | exact b2 | exact b2.alloc (Nat.le_of_lt s2) _ | refine Below.setCell ?_ (by simp) _ | refine Below.alloc ?_ (by simp; omega) _ | refine Below.drew ?_)

theorem ptag_len (s : ByteArray) (hsz : s.size ≤ 1048576) (h12 : s.size ≠ 12) (w : World) :
    Calls Tryd.prog 20 #[.string s] w fun e w' => e = .returned (.tuple #[.agg #[.int .i64 0, .int .i64 0, .int .i64 0], .bool false]) ∧ Below w.heap.size w w' := by
  have hne : decide ((s.size : Int) = 12) = false := decide_eq_false (by omega)
  have hne2 : ((s.size : Int) == 12) = false := by rw [beq_eq_false_iff_ne]; omega
  go_enter Tryd.func20, Tryd.ntmps20
  go_wp2
  have qq : ∀ i, i < 3 → (w.alloc (.cells #[.int .i64 0, .int .i64 0, .int .i64 0] 36)).cell? ⟨w.heap.size, i, none⟩ = some (.int .i64 0) := fun i hi => new_cell w #[.int .i64 0, .int .i64 0, .int .i64 0] _ i _ (by rcases i with _ | _ | _ | i <;> first | rfl | omega)
  obtain ⟨q0, q1, q2⟩ := three_cells (.int .i64 0) (.int .i64 0) (.int .i64 0) (qq 0 (by omega)) (qq 1 (by omega)) (qq 2 (by omega))
  refine bodyPost_ret (v := .tuple #[.agg #[.int .i64 0, .int .i64 0, .int .i64 0], .bool false]) (by simp [results, Tryd.results20, go_sem, *]) rfl ⟨rfl, ?_⟩
  repeat (first | exact Below.refl _ _ | refine Below.alloc ?_ (by simp <;> omega) _ | refine Below.setCell ?_ (by simp) _ | refine Below.drew ?_)

/-- What ParseTag returns. -/
theorem ptag_any (s : ByteArray) (hsz : s.size ≤ 1048576) (w : World) (htab : Lib.TabIs Tryd.prog w "internal/strconv.uint64pow10" .u64 Lib.pow10Tab) (hrng : ErrIs w "strconv.ErrRange") (hsyn : ErrIs w "strconv.ErrSyntax") :
    Calls Tryd.prog 20 #[.string s] w fun e w' => e = .returned (ptv (ptans s.data.toList)) ∧ Below w.heap.size w w' := by
  obtain ⟨tp, p, hr⟩ := hrng
  obtain ⟨tq, q, hs⟩ := hsyn
  have hlen : s.data.toList.length = s.size := by simp
  unfold ptans
  by_cases h12 : s.size = 12
  · rw [if_pos (by omega)]
    cases h : tagOf s.data.toList
    · cases k : Lib.atoiAll (s.data.toList.take 10)
      · exact ptag_not s h12 _ k (tagOf_none (by omega) h) w htab
      · exact ptag_err s h12 (by rw [k]; intro v hv; cases hv) w tp p hr tq q hs
      · exact ptag_err s h12 (by rw [k]; intro v hv; cases hv) w tp p hr tq q hs
    · rename_i t
      obtain ⟨N, ha, n9, rfl, hf⟩ := tagOf_says (by omega) h
      exact ptag_ok s h12 N n9 ha _ _ _ rfl rfl rfl hf w htab
  · rw [if_neg (by omega)]
    exact ptag_len s hsz h12 w

end Go.Proofs.YtopkdkehkdhmgabDoor
