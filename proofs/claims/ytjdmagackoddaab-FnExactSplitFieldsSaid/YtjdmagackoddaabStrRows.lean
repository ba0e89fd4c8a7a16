/- The laws' own comparisons and marks of slices of strings. -/
import Derived.Test.YtjdmagackoddaabSmall
import Derived.Test.YtjdmagackoddaabChecked
import Derived.Deep.LoopGhost
import Derived.BigQuiet
import Derived.Deep.QuietTactic
import Derived.Deep.RegionWith
import Derived.OwnWalk
import Derived.Lib.ItoaNum
import Derived.Lib.ItoaLen
namespace Go.Proofs.Ytjdmagackoddaab
open Go.RowKit
set_option linter.unusedVariables false

theorem ownsRow_belowS {B : Nat} {e : TypeId} {k : Nat} {v : Value} {n : Nat} {xs : List Value} {w w' : World} (h : w.ownsRow B e k v n xs) (hb : Below w.heap.size w w') : w'.ownsRow B e k v n xs := by
  obtain ⟨h1, h2⟩ := h
  refine ⟨h1, ?_⟩
  rcases h2 with h2 | ⟨g, cap, cur, a, b, c, d⟩
  · exact .inl h2
  · refine .inr ⟨g, cap, cur, a, b, ?_, d⟩
    rw [hb.block g (Array.getElem?_eq_some_iff.1 c).1]
    exact c

/-- What is left of a number, and the digits that stand already, make its numeral. -/
def mLeft (N m : Nat) (l : List UInt8) : Prop := (if m = 0 then l else Lib.decDigits m ++ l) = Lib.decDigits N
theorem mleft_step {N m : Nat} {l : List UInt8} (h : mLeft N m l) (hm : m ≠ 0) : mLeft N (m / 10) (UInt8.ofNat (48 + m % 10) :: l) := by
  unfold mLeft at h ⊢
  rw [if_neg hm] at h
  by_cases h9 : m < 10
  · rw [if_pos (by omega), ← h, Lib.decDigits_one h9, show m % 10 = m by omega]
    rfl
  · rw [if_neg (by omega), ← h]
    conv => rhs; rw [Lib.decDigits, dif_neg h9]
    simp
theorem mleft_end {N : Nat} {l : List UInt8} (h : mLeft N 0 l) : l = Lib.decDigits N := by simpa [mLeft] using h
theorem mleft_len {N m : Nat} {l : List UInt8} (hN : N < 18446744073709551616) (h : mLeft N m l) : l.length ≤ 20 := by
  have h2 := Lib.nDigits_le20 N hN
  rw [← Lib.decDigits_length] at h2
  unfold mLeft at h
  rw [← h] at h2
  split at h2
  · exact h2
  · rw [List.length_append] at h2; omega
theorem mcat_one (b : UInt8) (l : List UInt8) : ((⟨#[b]⟩ : ByteArray) ++ ⟨l.toArray⟩) = ⟨(b :: l).toArray⟩ := by
  apply ByteArray.ext
  simp [ByteArray.data_append]
/-- The text of the mark N. -/
def mtx (N : Nat) : ByteArray := ⟨(109 :: Lib.decDigits N).toArray⟩

set_option maxHeartbeats 1000000 in
theorem mtext_any (N : Nat) (h0 : 1 ≤ N) (h1 : N ≤ 4000000) (w : World) :
    Calls Try.prog 23 #[.int .i64 (N : Int)] w fun e w' => e = .returned (.string (mtx N)) ∧ Below w.heap.size w w' := by
  have hN0 : decide ((N : Int) ≤ 0) = false := decide_eq_false (by omega)
  go_enter Try.func23, Try.ntmps23
  go_wp2
  go_loopw [0, 3] (fun n s wr => ∃ (m : Nat) (l : List UInt8), m ≤ 4000000 ∧ n = .int .i64 (m : Int) ∧ s = .string ⟨l.toArray⟩ ∧ l.length ≤ 20 ∧ Hid (mLeft N m l) ∧ Below w.heap.size w wr)
    (fun n _ _ => (intOf n).toNat)
  case atStart =>
    exact ⟨N, [], h1, rfl, rfl, by simp, by show mLeft N N []; simp [mLeft]; omega, Below.refl _ _⟩
  case round =>
    obtain ⟨m, l, hm, rfl, rfl, hl, hL, hb⟩ := hrel
    by_cases hz : m = 0
    · have hne : ¬ 0 < m := by omega
      have hne2 : decide (0 < m) = false := decide_eq_false hne
      have HE := Lib.hid (mleft_end (hz ▸ hL.out))
      have hct := mcat_one 109 l
      clear hz hL
      go_wp2
      go_ret
      refine ⟨?_, hb⟩
      rw [show mtx N = ⟨(109 :: l).toArray⟩ by unfold mtx; rw [← HE.out]]
      first | rfl | (rw [← hct]; rfl)
    · have hm1 : 1 ≤ m := by omega
      obtain ⟨bb, hbb⟩ : ∃ bb : UInt8, bb = UInt8.ofNat (48 + m % 10) := ⟨_, rfl⟩
      have hcv := conv_one Try.underlying40 Try.underlying5 Try.underlying9 bb (48 + (m : Int) % 10) (by rw [hbb]; simp only [UInt8.toNat_ofNat']; omega)
      have HS := Lib.hid (mleft_step hL.out hz)
      rw [← hbb] at HS
      have HLn := Lib.hid (mleft_len (by omega) HS.out)
      have hct := mcat_one bb l
      clear hbb hz
      have hs := hb.size
      have hne : decide ((0 : Int) < (m : Int)) = true := decide_eq_true (by omega)
      go_wp2
      go_roundw
      case rel => exact ⟨m / 10, bb :: l, by omega, by go_num, by first | rfl | rw [hct], HLn.out, HS, hb.alloc hs _⟩
      case measure => simp [intOf] <;> omega

set_option maxRecDepth 100000 in
set_option maxHeartbeats 1000000 in
theorem eqStringS_any (n : Nat) (hn : n ≤ 1048576) (xs : List ByteArray) (pa pb : Option Addr) (ca cb : Nat) (ga gb : Nat) (w : World)
    (ha : 0 < n → pa = some ⟨ga, 0, none⟩ ∧ ga < w.heap.size) (hb : 0 < n → pb = some ⟨gb, 0, none⟩ ∧ gb < w.heap.size)
    (hca : ∀ j, j < n → w.cell? ⟨ga, j, none⟩ = some (.string (xs.getD j ByteArray.empty))) (hcb : ∀ j, j < n → w.cell? ⟨gb, j, none⟩ = some (.string (xs.getD j ByteArray.empty))) :
    Calls Try.prog 10 #[.slice pa n ca, .slice pb n cb] w fun e w' => e = .returned (.bool true) ∧ Below w.heap.size w w' := by
  have HA := Lib.hid hca
  have HB := Lib.hid hcb
  have PA := Lib.hid ha
  have PB := Lib.hid hb
  clear hca hcb ha hb
  go_enter Try.func10, Try.ntmps10
  go_wp2_with fail
  go_loopw [5] (fun v wr => ∃ k : Nat, k ≤ n ∧ v = .int .i64 (k : Int) ∧ Below w.heap.size w wr) (fun v _ => n - (intOf v).toNat)
  case atStart => exact ⟨0, by omega, rfl, Below.refl _ _⟩
  case round =>
    obtain ⟨k, hk, rfl, hbw⟩ := hrel
    by_cases hkn : k < n
    · obtain ⟨rfl, hga⟩ := PA.out (by omega)
      obtain ⟨rfl, hgb⟩ := PB.out (by omega)
      have a0 := (hbw.cell (p := ⟨ga, k, none⟩) hga).trans (HA.out k hkn)
      have b0 := (hbw.cell (p := ⟨gb, k, none⟩) hgb).trans (HB.out k hkn)
      obtain ⟨x0, hx0⟩ : ∃ x, x = xs.getD k ByteArray.empty := ⟨_, rfl⟩
      rw [← hx0] at a0 b0
      clear hx0
      have hk0 : (0 : Int) ≤ (k : Int) := by omega
      have hkl : (k : Int) < (n : Int) := by omega
      go_wp2_with fail
      go_quiet (fail)
      go_wp2_with fail
      go_roundw
      case rel => exact ⟨k + 1, by omega, by congr 1, by first | exact hbw | exact hbw.drew | (refine hbw.trans ?_; exact ⟨rfl, rfl, rfl, Nat.le_refl _, fun _ _ => rfl⟩)⟩
      case measure => simp only [intOf]; omega
    · obtain rfl : k = n := by omega
      go_wp2_with fail
      go_ret
      exact ⟨rfl, hbw⟩

set_option maxRecDepth 100000 in
set_option maxHeartbeats 1000000 in
theorem markStringS_any (n : Nat) (hn : n ≤ 1048576) (v : Value) (xs : List Value) (B : Nat) (w : World) (hB : B ≤ w.heap.size) (h : w.ownsRow B 9 1 v n xs) :
    Calls Try.prog 11 #[v, .int .i64 1] w fun e w' => e = .returned (.int .i64 ((1 + n : Nat) : Int)) ∧ w.heap.size ≤ w'.heap.size ∧ Below B w w' ∧ ∃ ys, w'.ownsRow B 9 1 v n ys ∧ ∀ j, j < n → ys[j]? = some (.string (mtx (1 + j))) := by
  obtain ⟨pa, ca, ga, rfl, ha⟩ : ∃ pa ca ga, v = .slice pa n ca ∧ (0 < n → pa = some ⟨ga, 0, none⟩ ∧ B ≤ ga) := by
    rcases h.2 with ⟨rfl, rfl⟩ | ⟨g, cap, cur, rfl, hb, -⟩
    · exact ⟨_, _, 0, rfl, fun h => absurd h (by omega)⟩
    · exact ⟨_, _, g, rfl, fun _ => ⟨rfl, hb⟩⟩
  have H := Lib.hid h
  have PA := Lib.hid ha
  clear h ha
  go_enter Try.func11, Try.ntmps11
  go_wp2_with fail
  go_loopw [1, 5] (fun m v wr => ∃ (k : Nat) (ys : List Value), k ≤ n ∧ v = .int .i64 (k : Int) ∧ m = .int .i64 ((1 + k : Nat) : Int) ∧ wr.ownsRow B 9 1 (.slice pa n ca) n ys ∧ Hid (∀ j, j < k → ys[j]? = some (.string (mtx (1 + j)))) ∧ w.heap.size ≤ wr.heap.size ∧ Below B w wr) (fun _ v _ => n - (intOf v).toNat)
  case atStart => exact ⟨0, xs, by omega, rfl, rfl, H.out, fun j hj => absurd hj (by omega), Nat.le_refl _, Below.refl _ _⟩
  case round =>
    obtain ⟨k, ys, hk, rfl, rfl, hown, HY, hsz, hbw⟩ := hrel
    by_cases hkn : k < n
    · obtain ⟨rfl, hga⟩ := PA.out (by omega)
      obtain ⟨z, hz⟩ : ∃ z : Nat, z = 1 + k := ⟨_, rfl⟩
      rw [← hz]
      have hz9 : z ≤ 4000000 := by omega
      have hz1 : 1 ≤ z := by omega
      have HZ := Lib.hid hz
      have HO := Lib.hid hown
      clear hz hown
      have hk0 : (0 : Int) ≤ (k : Int) := by omega
      have hkl : (k : Int) < (n : Int) := by omega
      go_wp2_with (go_at_call 23; refine (mtext_any z hz1 hz9 _).mono ?_; rintro e w2 ⟨rfl, hb2⟩; have hown2 := ownsRow_belowS HO.out hb2; have hyl := hown2.1; obtain ⟨u0, a0⟩ : ∃ u, w2.cell? ⟨ga, k, none⟩ = some u := ⟨_, (hown2.cellAt k (by omega)).trans (List.getElem?_eq_getElem (by omega))⟩; have f0 := hown2.frozenAt k; have hs0 := Lib.hid (hown2.stored k (.string (mtx z))).1; have HL := Lib.hid hyl; clear hown2 hyl)
      have hb3 := hb2.size
      have hbw2 : Below B w w2 := hbw.trans (hb2.mono (by omega))
      go_roundw
      case rel =>
        refine ⟨k + 1, _, by omega, by congr 1, by congr 1; have := HZ.out; omega, hs0.out, ?_, by simp [World.setCell]; omega, hbw2.setCell hga _⟩
        intro j hj
        have hz := HZ.out
        have hl := HL.out
        simp only [List.getElem?_set]
        by_cases e0 : k = j
        · subst e0; rw [if_pos rfl, if_pos (by omega), hz]
        · rw [if_neg e0]; exact HY.out j (by omega)
      case measure => simp only [intOf]; omega
    · obtain rfl : k = n := by omega
      go_wp2_with fail
      go_ret
      exact ⟨rfl, hsz, hbw, ys, hown, HY.out⟩

set_option maxRecDepth 100000 in
set_option maxHeartbeats 1000000 in
theorem heldStringS_any (n : Nat) (hn : n ≤ 1048576) (pa : Option Addr) (ca ga : Nat) (w : World) (ha : 0 < n → pa = some ⟨ga, 0, none⟩ ∧ ga < w.heap.size)
    (hca : ∀ j, j < n → w.cell? ⟨ga, j, none⟩ = some (.string (mtx (1 + j)))) :
    Calls Try.prog 12 #[.slice pa n ca, .int .i64 1] w fun e w' => e = .returned (.int .i64 ((1 + n : Nat) : Int)) ∧ Below w.heap.size w w' := by
  have HA := Lib.hid hca
  have PA := Lib.hid ha
  clear hca ha
  go_enter Try.func12, Try.ntmps12
  go_wp2_with fail
  go_loopw [1, 5] (fun m v wr => ∃ k : Nat, k ≤ n ∧ v = .int .i64 (k : Int) ∧ m = .int .i64 ((1 + k : Nat) : Int) ∧ Below w.heap.size w wr) (fun _ v _ => n - (intOf v).toNat)
  case atStart => exact ⟨0, by omega, rfl, rfl, Below.refl _ _⟩
  case round =>
    obtain ⟨k, hk, rfl, rfl, hbw⟩ := hrel
    by_cases hkn : k < n
    · obtain ⟨rfl, hga⟩ := PA.out (by omega)
      have a0 := (hbw.cell (p := ⟨ga, k, none⟩) hga).trans (HA.out k (by omega))
      obtain ⟨z, hz⟩ : ∃ z : Nat, z = 1 + k := ⟨_, rfl⟩
      rw [← hz] at a0 ⊢
      have hz9 : z ≤ 4000000 := by omega
      have hz1 : 1 ≤ z := by omega
      have HZ := Lib.hid hz
      clear hz
      have hgr : ga < wr.heap.size := Nat.lt_of_lt_of_le hga hbw.size
      have hk0 : (0 : Int) ≤ (k : Int) := by omega
      have hkl : (k : Int) < (n : Int) := by omega
      obtain ⟨x0, hx0⟩ : ∃ x, x = mtx z := ⟨_, rfl⟩
      have hcon := Lib.hid (fun W => mtext_any z hz1 hz9 W)
      rw [← hx0] at a0 hcon
      clear hx0
      have hbz := hbw.size
      go_wp2_with fail
      go_region_with (go_at_call 23; refine (hcon.out _).mono ?_; rintro e w2 ⟨rfl, hb2⟩; have a2 := (hb2.cell (p := ⟨ga, k, none⟩) (by first | exact hgr | (simp; exact hgr))).trans a0)
      all_goals
        have hbw2 : Below w.heap.size w w2 := by first | exact hbw.trans (hb2.mono hbz) | exact hbw.drew.trans (hb2.mono hbz)
        go_wp2_with fail
        go_roundw
        case rel => exact ⟨k + 1, by omega, by congr 1, by congr 1; have := HZ.out; omega, by first | exact hbw2 | exact hbw2.drew⟩
        case measure => simp only [intOf]; omega
    · obtain rfl : k = n := by omega
      go_wp2_with fail
      go_ret
      exact ⟨rfl, hbw⟩

end Go.Proofs.Ytjdmagackoddaab
