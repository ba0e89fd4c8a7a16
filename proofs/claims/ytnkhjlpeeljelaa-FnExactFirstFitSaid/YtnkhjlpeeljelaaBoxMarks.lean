/- Boxes that a program made: in which blocks they lie, read as values, and the marks that the laws set. -/
import Derived.Test.YtnkhjlpeeljelaaBoxMem
import Derived.Test.YtnkhjlpeeljelaaIntRows
import Derived.Deep.LoopGhost
import Derived.BigQuiet
import Derived.Deep.QuietTactic
import Derived.Deep.RegionWith
namespace Go.Proofs.Ytnkhjlpeeljelaa
open Go.RowKit
set_option linter.unusedVariables false

/-- v holds the boxes L, in the blocks lo .. hi. -/
def BxH (w : World) (lo hi : Nat) (v : Value) (L : List Bx) : Prop :=
  ∃ (xs : List Value) (s : Nat → Value), w.ownsRow lo 74 3 v L.length xs ∧
    (∀ i, i < L.length → xs[i * 3]? = some (.int .i64 (L.getD i bxD).1) ∧ xs[i * 3 + 1]? = some (.int .i64 (L.getD i bxD).2.1) ∧ xs[i * 3 + 2]? = some (s i)) ∧
    (∀ i, i < L.length → w.ownsRow lo 3 1 (s i) (L.getD i bxD).2.2.length ((L.getD i bxD).2.2.map (.int .i64))) ∧
    (∀ i j, i < j → j < L.length → ∀ b, (s i).ownBlock = some b → (s j).ownBlock ≠ some b) ∧ (∀ b, v.ownBlock = some b → b < hi) ∧ (∀ i, i < L.length → ∀ b, (s i).ownBlock = some b → b < hi)
theorem BxO.toH {w : World} {B : Nat} {v : Value} {L : List Bx} (h : BxO w B v L) : BxH w B w.heap.size v L := by
  obtain ⟨xs, s, h1, h2, h3, h4⟩ := h
  exact ⟨xs, s, h1, h2, h3, h4, fun b hb => (h1.lt b hb).2, fun i hi b hb => ((h3 i hi).lt b hb).2⟩
theorem own_block {w w' : World} {B : Nat} {e : TypeId} {k : Nat} {v : Value} {n : Nat} {xs : List Value} (h : w.ownsRow B e k v n xs) (hk : ∀ b, v.ownBlock = some b → w'.heap[b]? = w.heap[b]?) : w'.ownsRow B e k v n xs := by
  obtain ⟨a, b⟩ := h
  refine ⟨a, ?_⟩
  rcases b with b | ⟨g, cap, cur, rfl, e2, e3, e4⟩
  · exact .inl b
  · exact .inr ⟨g, cap, cur, rfl, e2, (hk g rfl).trans e3, e4⟩
theorem BxH.keep {w w' : World} {lo hi : Nat} {v : Value} {L : List Bx} (h : BxH w lo hi v L) (hk : ∀ k, lo ≤ k → k < hi → w'.heap[k]? = w.heap[k]?) : BxH w' lo hi v L := by
  obtain ⟨xs, s, h1, h2, h3, h4, h5, h6⟩ := h
  exact ⟨xs, s, own_block h1 (fun b hb => hk b (h1.lt b hb).1 (h5 b hb)), h2, fun i hi => own_block (h3 i hi) (fun b hb => hk b ((h3 i hi).lt b hb).1 (h6 i hi b hb)), h4, h5, h6⟩
theorem BxH.below {w w' : World} {B lo hi : Nat} {v : Value} {L : List Bx} (h : BxH w lo hi v L) (hb : Below B w w') (hB : hi ≤ B) : BxH w' lo hi v L := h.keep fun k _ hk => hb.block k (by omega)
theorem BxH.touch {w w' : World} {a b lo hi : Nat} {v : Value} {L : List Bx} (h : BxH w lo hi v L) (t : Touch a b w w') (hs : hi ≤ w.heap.size) (hd : hi ≤ a ∨ b ≤ lo) : BxH w' lo hi v L := h.keep fun k h1 h2 => t.block k (by omega) (by omega)
/-- Read as values. -/
def aL (L : List Bx) (j : Nat) : Int := if j % 3 = 0 then (L.getD (j / 3) bxD).1 else (L.getD (j / 3) bxD).2.1
def nL (L : List Bx) (i : Nat) : Nat := (L.getD i bxD).2.2.length
def xL (L : List Bx) (i j : Nat) : Int := (L.getD i bxD).2.2.getD j 0
theorem own_rd {w : World} {B : Nat} {v : Value} {l : List Int} (h : w.ownsRow B 3 1 v l.length (l.map (.int .i64))) : Rd w v l.length l.length (fun j => l.getD j 0) := by
  have h9 := (Own.of_own (z := fun j => l.getD j 0) h (fun j hj => by
    rw [List.getElem?_map, List.getElem?_eq_getElem (by omega), List.getD_eq_getElem?_getD, List.getElem?_eq_getElem (by omega)]; rfl)).rd (Nat.le_refl _)
  rw [Nat.mul_one] at h9
  exact h9
theorem BxH.nrd {w : World} {lo hi : Nat} {v : Value} {L : List Bx} (h : BxH w lo hi v L) : ∃ p c, v = .slice p L.length c ∧ NRd w (.slice p L.length c) L.length 2 (aL L) (nL L) (xL L) := by
  obtain ⟨xs, s, h1, h2, h3, h4, h5, h6⟩ := h
  obtain ⟨p, c, rfl⟩ := own_sliceB h1
  have hc9 : L.length ≤ c := by
    rcases h1.2 with ⟨e1, h0⟩ | ⟨gz, cz', _, e1, -, -, hle, -⟩
    · omega
    · injection e1 with _ _ e3
      omega
  obtain ⟨gq, h7, -⟩ := FlatAt.of_own (f := fun j => if j % (2 + 1) = 2 then s (j / (2 + 1)) else .int .i64 (aL L j)) h1 (fun j hj => by
    obtain ⟨a0, a1, a2⟩ := h2 (j / 3) (by omega)
    have hj3 : j = j / 3 * 3 + j % 3 := by omega
    have hm3 : j % 3 < 3 := Nat.mod_lt _ (by decide)
    show xs[j]? = some (if j % 3 = 2 then s (j / 3) else .int .i64 (aL L j))
    unfold aL
    rcases Nat.lt_trichotomy (j % 3) 1 with h | h | h
    · have h' : j % 3 = 0 := by omega
      rw [if_neg (by omega), if_pos h', ← a0]
      congr 1
      omega
    · rw [if_neg (by omega), if_neg (by omega), ← a1]
      congr 1
      omega
    · have h' : j % 3 = 2 := by omega
      rw [if_pos h', ← a2]
      congr 1
      omega)
  exact ⟨p, c, rfl, p, c, gq, 0, s, rfl, hc9, h7.wide (Nat.zero_le _) (Nat.le_refl _), fun i hi => own_rd (h3 i hi)⟩

/-! Marks. -/
/-- The number at box i, when the numbers begin with k0. -/
def kAt (k0 : Nat) (L : List Bx) : Nat → Nat
  | 0 => k0
  | i + 1 => kAt k0 L i + 2 + (L.getD i bxD).2.2.length
def mrow (k n : Nat) : List Int := (List.range n).map fun j => ((k + j : Nat) : Int)
theorem mrow_len (k n : Nat) : (mrow k n).length = n := by simp [mrow]
def mkX (k0 : Nat) (L : List Bx) (i : Nat) : Bx := (((kAt k0 L i : Nat) : Int), ((kAt k0 L i + 1 : Nat) : Int), mrow (kAt k0 L i + 2) (L.getD i bxD).2.2.length)
/-- The first k boxes are marked. -/
def mkP (k0 : Nat) (L : List Bx) (k : Nat) : List Bx := (List.range L.length).map fun i => if i < k then mkX k0 L i else L.getD i bxD
theorem mkP_len (k0 : Nat) (L : List Bx) (k : Nat) : (mkP k0 L k).length = L.length := by simp [mkP]
theorem mkP_at (k0 : Nat) (L : List Bx) (k i : Nat) (h : i < L.length) : (mkP k0 L k).getD i bxD = if i < k then mkX k0 L i else L.getD i bxD := by
  unfold mkP
  rw [List.getD_eq_getElem?_getD, List.getElem?_map, List.getElem?_range h]; rfl
theorem mkP_row (k0 : Nat) (L : List Bx) (k i : Nat) (h : i < L.length) : ((mkP k0 L k).getD i bxD).2.2.length = (L.getD i bxD).2.2.length := by
  rw [mkP_at k0 L k i h]
  split
  · exact mrow_len _ _
  · rfl
theorem mkP_zero (k0 : Nat) (L : List Bx) : mkP k0 L 0 = L := by
  refine List.ext_getElem (mkP_len k0 L 0) fun i h1 h2 => ?_
  have := mkP_at k0 L 0 i h2
  rw [if_neg (by omega), List.getD_eq_getElem?_getD, List.getD_eq_getElem?_getD, List.getElem?_eq_getElem h1, List.getElem?_eq_getElem h2] at this
  exact this
theorem kAt_le (k0 : Nat) (L : List Bx) (i : Nat) : k0 ≤ kAt k0 L i := by
  induction i with
  | zero => exact Nat.le_refl _
  | succ i ih => unfold kAt; omega
theorem kAt_ub (k0 : Nat) (L : List Bx) (r : Nat) (h : ∀ i, i < L.length → (L.getD i bxD).2.2.length ≤ r) (i : Nat) (hi : i ≤ L.length) : kAt k0 L i ≤ k0 + i * (r + 2) := by
  induction i with
  | zero => show k0 ≤ _; omega
  | succ i ih =>
    have h1 := ih (by omega)
    have h2 := h i (by omega)
    show kAt k0 L i + 2 + _ ≤ _
    rw [Nat.succ_mul]
    omega
theorem kAt_mono (k0 : Nat) (L : List Bx) {i j : Nat} (h : i ≤ j) : kAt k0 L i ≤ kAt k0 L j := by
  induction j with
  | zero => obtain rfl : i = 0 := by omega
            exact Nat.le_refl _
  | succ j ih =>
    by_cases e : i = j + 1
    · subst e; exact Nat.le_refl _
    · have := ih (by omega)
      show kAt k0 L i ≤ kAt k0 L j + 2 + _
      omega

set_option maxRecDepth 100000 in
set_option maxHeartbeats 2000000 in
theorem markInt_own (k0 n : Nat) (hn : n ≤ 1048576) (hk9 : k0 ≤ 1099511627776) (B : Nat) (v : Value) (xs : List Value) (w : World) (h : w.ownsRow B 3 1 v n xs) :
    Calls Try.prog 33 #[v, .int .i64 (k0 : Int)] w fun e w' => e = .returned (.int .i64 ((k0 + n : Nat) : Int)) ∧ w'.ownsRow B 3 1 v n ((mrow k0 n).map (.int .i64)) ∧ w.grownBy w' v.ownBlock := by
  by_cases h0 : n = 0
  · subst h0
    obtain ⟨p, c, rfl⟩ := own_sliceB h
    have H := Lib.hid h
    clear h
    go_enter Try.func33, Try.ntmps33
    go_wp2_with fail
    go_loopw [1, 5] (fun m v wr => v = .int .i64 0 ∧ m = .int .i64 ((k0 : Nat) : Int) ∧ w = wr) (fun _ v _ => 0)
    case atStart => exact ⟨rfl, rfl, rfl⟩
    case round =>
      obtain ⟨rfl, rfl, rfl⟩ := hrel
      go_wp2_with fail
      go_ret
      refine ⟨rfl, ?_, ⟨rfl, rfl, rfl, Nat.le_refl _, fun _ _ _ => rfl⟩⟩
      have h9 := H.out
      have hx : xs = [] := List.eq_nil_of_length_eq_zero (by simpa using h9.1)
      rw [hx] at h9
      exact h9
  rcases h.2 with ⟨-, e⟩ | ⟨g, cap, cur, rfl, -⟩
  · exact absurd e h0
  have H := Lib.hid h
  clear h
  go_enter Try.func33, Try.ntmps33
  go_wp2_with fail
  go_loopw [1, 5] (fun m v wr => ∃ (k : Nat) (ys : List Value), k ≤ n ∧ v = .int .i64 (k : Int) ∧ m = .int .i64 ((k0 + k : Nat) : Int) ∧ Hid (wr.ownsRow B 3 1 (.slice (some ⟨g, 0, none⟩) n cap) n ys) ∧ Hid (∀ j, j < k → ys[j]? = some (.int .i64 ((k0 + j : Nat) : Int))) ∧ Hid (w.grownBy wr (some g))) (fun _ v _ => n - (intOf v).toNat)
  case atStart => exact ⟨0, xs, by omega, rfl, by congr 1, H.out, fun j hj => absurd hj (by omega), ⟨rfl, rfl, rfl, Nat.le_refl _, fun _ _ _ => rfl⟩⟩
  case round =>
    obtain ⟨k, ys, hk, rfl, rfl, HO, HY, HG⟩ := hrel
    have hyl : ys.length = n * 1 := HO.out.1
    by_cases hkn : k < n
    · have a0 := HO.out.cellAt k (by omega)
      rw [List.getElem?_eq_getElem (show k < ys.length by omega)] at a0
      obtain ⟨u0, hu0⟩ : ∃ u, u = ys[k]'(by omega) := ⟨_, rfl⟩
      rw [← hu0] at a0
      have f0 := HO.out.frozenAt k
      obtain ⟨y, hy⟩ : ∃ y : Nat, y = k0 + k := ⟨_, rfl⟩
      rw [← hy]
      have hst := HO.out.stored k (.int .i64 (y : Int))
      have HS := Lib.hid hst
      have hy9 : y ≤ 1099611627776 := by omega
      have HYY := Lib.hid hy
      clear hy hst hu0
      have hk0 : (0 : Int) ≤ (k : Int) := by omega
      have hkl : (k : Int) < (n : Int) := by omega
      go_wp2_with fail
      go_roundw
      case rel =>
        refine ⟨k + 1, ys.set k (.int .i64 (y : Int)), by omega, by congr 1, by congr 1; have := HYY.out; omega, HS.out.1, fun j hj => ?_, HG.out.trans HS.out.2⟩
        by_cases e : j = k
        · subst e; rw [List.getElem?_set_self (by omega), HYY.out]
        · rw [List.getElem?_set_ne (fun h => e h.symm)]; exact HY.out j (by omega)
      case measure => simp only [intOf]; omega
    · obtain rfl : k = n := by omega
      go_wp2_with fail
      go_ret
      refine ⟨rfl, ?_, HG.out⟩
      have hx : ys = (mrow k0 k).map (.int .i64) := by
        refine List.ext_getElem? fun j => ?_
        rcases Nat.lt_or_ge j k with h | h
        · rw [HY.out j h]; unfold mrow; rw [List.getElem?_map, List.getElem?_map, List.getElem?_range h]; rfl
        · rw [List.getElem?_eq_none (by omega), List.getElem?_eq_none (by rw [List.length_map, mrow_len]; exact h)]
      rw [← hx]
      exact HO.out

theorem mkP_step (k0 : Nat) (L : List Bx) (i q : Nat) (hi : i < L.length) (hq : q < L.length) : (mkP k0 L (i + 1)).getD q bxD = if q = i then mkX k0 L i else (mkP k0 L i).getD q bxD := by
  rw [mkP_at k0 L (i + 1) q hq, mkP_at k0 L i q hq]
  by_cases e : q = i
  · subst e; rw [if_pos (by omega), if_pos rfl]
  · rw [if_neg e]
    by_cases h : q < i
    · rw [if_pos h, if_pos (by omega)]
    · rw [if_neg h, if_neg (by omega)]

set_option maxRecDepth 100000 in
set_option maxHeartbeats 8000000 in
theorem markBoxS_v (k0 : Nat) (L : List Bx) (hn : L.length ≤ 1048576) (hk9 : kAt k0 L L.length ≤ 1099511627776) (hrow : ∀ i, i < L.length → (L.getD i bxD).2.2.length ≤ 1048576) (lo hi : Nat) (v : Value) (w : World) (h : BxH w lo hi v L) :
    Calls Try.prog 46 #[v, .int .i64 (k0 : Int)] w fun e w' => e = .returned (.int .i64 ((kAt k0 L L.length : Nat) : Int)) ∧ BxH w' lo hi v (mkP k0 L L.length) ∧ Touch lo hi w w' := by
  have hT : (3 : TypeId) ≠ 74 := by decide
  have ck := cellsBox
  obtain ⟨xs, s, h1, h2, h3, h4, h5, h6⟩ := h
  obtain ⟨n, hn0⟩ : ∃ n, n = L.length := ⟨_, rfl⟩
  rw [← hn0] at hn hk9 hrow h1 h2 h3 h4 h6 ⊢
  have HN0 := Lib.hid hn0
  rcases h1.2 with ⟨rfl, e0⟩ | ⟨G, cap, cur, rfl, -⟩
  · subst e0
    have HL : Hid (L = []) := List.eq_nil_of_length_eq_zero hn0.symm
    have HP := Lib.hid (And.intro h1 (And.intro h2 (And.intro h3 (And.intro h4 (And.intro h5 h6)))))
    clear h1 h2 h3 h4 h5 h6 hn0 hrow hk9
    go_enter Try.func46, Try.ntmps46
    go_wp2_with fail
    go_loopw [1, 5] (fun m v wr => v = .int .i64 0 ∧ m = .int .i64 ((k0 : Nat) : Int) ∧ w = wr) (fun _ v _ => 0)
    case atStart => exact ⟨rfl, rfl, rfl⟩
    case round =>
      obtain ⟨rfl, rfl, rfl⟩ := hrel
      go_wp2_with fail
      go_ret
      refine ⟨rfl, ?_, Touch.refl _ _ _⟩
      obtain ⟨h1, h2, h3, h4, h5, h6⟩ := HP.out
      rw [HL.out]
      exact ⟨xs, s, h1, fun i hi => absurd hi (by simp [mkP]), fun i hi => absurd hi (by simp [mkP]), fun i j _ hj => absurd hj (by simp [mkP]), h5, fun i hi => absurd hi (by simp [mkP])⟩
  have hGlo := (h1.lt G rfl).1
  have hGhi := h5 G rfl
  have H6 := Lib.hid h6
  have H4 := Lib.hid h4
  have HK := Lib.hid (fun i (hi : i ≤ n) => show kAt k0 L i ≤ 1099511627776 from Nat.le_trans (kAt_mono k0 L hi) hk9)
  have HRW := Lib.hid hrow
  have HI := Lib.hid (And.intro h1 (And.intro h2 h3))
  clear h1 h2 h3 h4 h5 h6 hn0 hrow hk9
  go_enter Try.func46, Try.ntmps46
  go_wp2_with fail
  go_loopw [1, 5] (fun m v wr => ∃ (i : Nat) (ys : List Value), i ≤ n ∧ v = .int .i64 (i : Int) ∧ m = .int .i64 ((kAt k0 L i : Nat) : Int) ∧ Hid (wr.ownsRow lo 74 3 (.slice (some ⟨G, 0, none⟩) n cap) n ys) ∧
      Hid (∀ q, q < n → ys[q * 3]? = some (.int .i64 ((mkP k0 L i).getD q bxD).1) ∧ ys[q * 3 + 1]? = some (.int .i64 ((mkP k0 L i).getD q bxD).2.1) ∧ ys[q * 3 + 2]? = some (s q)) ∧
      Hid (∀ q, q < n → wr.ownsRow lo 3 1 (s q) ((mkP k0 L i).getD q bxD).2.2.length (((mkP k0 L i).getD q bxD).2.2.map (.int .i64))) ∧ Hid (Touch lo hi w wr)) (fun _ v _ => n - (intOf v).toNat)
  case atStart => exact ⟨0, xs, by omega, rfl, rfl, HI.out.1, by rw [mkP_zero]; exact HI.out.2.1, by rw [mkP_zero]; exact HI.out.2.2, Touch.refl _ _ _⟩
  case round =>
    obtain ⟨i, ys, hi9, rfl, rfl, HO, HY, HR, HT⟩ := hrel
    have hyl : ys.length = n * 3 := HO.out.1
    obtain ⟨y, hy⟩ : ∃ y, y = kAt k0 L i := ⟨_, rfl⟩
    have hy9 := HK.out i hi9
    have hy10 := Lib.hid (fun (h : i < n) => show kAt k0 L i + 2 + (L.getD i bxD).2.2.length ≤ 1099511627776 from HK.out (i + 1) h)
    rw [← hy] at hy9 hy10 ⊢
    have HYK := Lib.hid hy
    clear hy
    by_cases hin : i < n
    · have hiL : i < L.length := by rw [← HN0.out]; exact hin
      have hi0 : (0 : Int) ≤ (i : Int) := by omega
      have hil : (i : Int) < (n : Int) := by omega
      have hwi : IntKind.i64.wrap ((i : Int) + 1) = (i : Int) + 1 := IntWalk.i64_in _ (by omega)
      have hwy : IntKind.i64.wrap ((y : Int) + 1) = (y : Int) + 1 := IntWalk.i64_in _ (by omega)
      have hwy2 : IntKind.i64.wrap ((y : Int) + 1 + 1) = (y : Int) + 1 + 1 := IntWalk.i64_in _ (by omega)
      have hn0 : i * 3 + 2 < ys.length := by omega
      have c0 := HO.out.cellAt (i * 3) (by omega)
      rw [List.getElem?_eq_getElem (show i * 3 < ys.length by omega)] at c0
      have c1 := HO.out.cellAt (i * 3 + 1) (by omega)
      rw [List.getElem?_eq_getElem (show i * 3 + 1 < ys.length by omega)] at c1
      have f0 := HO.out.frozenAt (i * 3)
      have f1 := HO.out.frozenAt (i * 3 + 1)
      obtain ⟨k1, g1⟩ := HO.out.stored (i * 3) (.int .i64 (y : Int))
      obtain ⟨k2, g2⟩ := k1.stored (i * 3 + 1) (.int .i64 ((y : Int) + 1))
      have c1' := k1.cellAt (i * 3 + 1) (by omega)
      rw [List.getElem?_set_ne (by omega), List.getElem?_eq_getElem (show i * 3 + 1 < ys.length by omega)] at c1'
      have f1' := k1.frozenAt (i * 3 + 1)
      have c2 := k2.cellAt (i * 3 + 2) (by omega)
      rw [List.getElem?_set_ne (by omega), List.getElem?_set_ne (by omega), (HY.out i hin).2.2] at c2
      have hri := HR.out i hin
      have hli : ((mkP k0 L i).getD i bxD).2.2.length = (L.getD i bxD).2.2.length := mkP_row k0 L i i hiL
      have hmk := Lib.hid (markInt_own (y + 2) ((mkP k0 L i).getD i bxD).2.2.length (by rw [hli]; exact HRW.out i hin) (by have := hy10.out hin; omega) lo (s i) _ _ (own_keepB hri (g1.trans g2) (fun b hb e => own_apart hri HO.out hT b hb e)))
      rw [show (((y + 2 : Nat)) : Int) = (y : Int) + 1 + 1 by omega] at hmk
      have HK2 := Lib.hid (And.intro k2 (g1.trans g2))
      obtain ⟨m9, hm9⟩ : ∃ m, m = ((mkP k0 L i).getD i bxD).2.2.length := ⟨_, rfl⟩
      rw [← hm9] at hmk
      have HLI := Lib.hid (hm9.trans hli)
      clear hri hli k1 k2 g1 g2 hm9
      go_wp2_with (go_at_call 33; refine hmk.out.mono ?_; rintro e w5 ⟨rfl, hr5, hg5⟩)
      go_roundw
      case rel =>
        have hg2 := HK2.out.2
        have hdis : ∀ q, q < n → q ≠ i → ∀ b, (s q).ownBlock = some b → (s i).ownBlock ≠ some b := fun q hq hqi b hb => by
          rcases Nat.lt_or_ge q i with h | h
          · exact H4.out q i h hin b hb
          · intro e; exact H4.out i q (by omega) hq b e hb
        refine ⟨i + 1, (ys.set (i * 3) (.int .i64 (y : Int))).set (i * 3 + 1) (.int .i64 ((y : Int) + 1)), by omega, by congr 1, ?_, own_keepB HK2.out.1 hg5 (fun b hb e => own_apart (HR.out i hin) HO.out hT b e hb), fun q hq => ?_, fun q hq => ?_, ?_⟩
        · show Value.int .i64 _ = .int .i64 ((kAt k0 L i + 2 + (L.getD i bxD).2.2.length : Nat) : Int)
          rw [← HLI.out, ← HYK.out]
          all_goals first | rfl | (congr 1; omega)
        · have hqL : q < L.length := by rw [← HN0.out]; exact hq
          rw [mkP_step k0 L i q hiL hqL]
          by_cases e : q = i
          · subst e
            rw [if_pos rfl]
            refine ⟨?_, ?_, ?_⟩
            · rw [List.getElem?_set_ne (by omega), List.getElem?_set_self (by omega)]
              show some (Value.int .i64 (y : Int)) = some (.int .i64 ((kAt k0 L q : Nat) : Int))
              rw [HYK.out]
            · rw [List.getElem?_set_self (by simp; omega)]
              show some (Value.int .i64 ((y : Int) + 1)) = some (.int .i64 ((kAt k0 L q + 1 : Nat) : Int))
              rw [← HYK.out]
              congr 2
            · rw [List.getElem?_set_ne (by omega), List.getElem?_set_ne (by omega)]
              exact (HY.out q hq).2.2
          · rw [if_neg e]
            obtain ⟨a0, a1, a2⟩ := HY.out q hq
            refine ⟨?_, ?_, ?_⟩
            · rw [List.getElem?_set_ne (by omega), List.getElem?_set_ne (by omega)]; exact a0
            · rw [List.getElem?_set_ne (by omega), List.getElem?_set_ne (by omega)]; exact a1
            · rw [List.getElem?_set_ne (by omega), List.getElem?_set_ne (by omega)]; exact a2
        · have hqL : q < L.length := by rw [← HN0.out]; exact hq
          rw [mkP_step k0 L i q hiL hqL]
          by_cases e : q = i
          · subst e
            rw [if_pos rfl]
            show w5.ownsRow lo _ 1 (s q) (mrow (kAt k0 L q + 2) (L.getD q bxD).2.2.length).length ((mrow (kAt k0 L q + 2) (L.getD q bxD).2.2.length).map _)
            rw [mrow_len, ← HYK.out, ← HLI.out]
            exact hr5
          · rw [if_neg e]
            have hrq := HR.out q hq
            exact own_keepB (own_keepB hrq hg2 (fun b hb e => own_apart hrq HO.out hT b hb e)) hg5 (fun b hb e2 => hdis q hq e b hb e2)
        · refine HT.out.trans ((Touch.of_grown hg2 (fun k _ ho e => by injection e with e; omega)).trans (Touch.of_grown hg5 (fun k _ ho e => ?_)))
          have h1 := ((HR.out i hin).lt k e.symm).1
          have h2 := H6.out i hin k e.symm
          omega
      case measure => simp only [intOf]; omega
    · obtain rfl : i = n := by omega
      go_wp2_with fail
      go_ret
      refine ⟨by rw [HYK.out]; first | done | rfl, ?_, HT.out⟩
      refine ⟨ys, s, by rw [mkP_len, ← HN0.out]; exact HO.out, fun q hq => ?_, fun q hq => ?_, fun a b hab hb => ?_, fun b hb => ?_, fun q hq => ?_⟩
      · rw [mkP_len, ← HN0.out] at hq; exact HY.out q hq
      · rw [mkP_len, ← HN0.out] at hq; exact HR.out q hq
      · rw [mkP_len, ← HN0.out] at hb; exact H4.out a b hab hb
      · injection hb with hb; rw [← hb]; exact hGhi
      · rw [mkP_len, ← HN0.out] at hq; exact H6.out q hq

theorem held_rd {w : World} {B k n : Nat} {v : Value} (h : w.ownsRow B 3 1 v n ((mrow k n).map (.int .i64))) : Rd w v n n (fun j => ((k + j : Nat) : Int)) := by
  have h' : w.ownsRow B 3 1 v (mrow k n).length ((mrow k n).map (.int .i64)) := by rw [mrow_len]; exact h
  obtain ⟨p, c, g, o, e, hc, hf⟩ := own_rd h'
  rw [mrow_len] at e hc hf
  refine ⟨p, c, g, o, e, hc, hf.congr (fun j hj => ?_)⟩
  congr 1
  show (mrow k n).getD j 0 = _
  unfold mrow
  rw [List.getD_eq_getElem?_getD, List.getElem?_map, List.getElem?_range hj]; rfl

set_option maxRecDepth 100000 in
set_option maxHeartbeats 4000000 in
theorem heldBoxS_v (k0 : Nat) (L : List Bx) (hn : L.length ≤ 1048576) (hk9 : kAt k0 L L.length ≤ 1099511627776) (hrow : ∀ i, i < L.length → (L.getD i bxD).2.2.length ≤ 1048576) (lo hi : Nat) (v : Value) (w : World) (h : BxH w lo hi v (mkP k0 L L.length)) :
    Calls Try.prog 47 #[v, .int .i64 (k0 : Int)] w fun e w' => e = .returned (.int .i64 ((kAt k0 L L.length : Nat) : Int)) ∧ Below w.heap.size w w' := by
  have ck := cellsBox
  obtain ⟨xs, s, h1, h2, h3, h4, h5, h6⟩ := h
  obtain ⟨p, c, rfl⟩ := own_sliceB h1
  rw [mkP_len] at h1 h2 h3
  obtain ⟨n, hn0⟩ : ∃ n, n = L.length := ⟨_, rfl⟩
  rw [show (mkP k0 L L.length).length = n from by rw [mkP_len, hn0]]
  have HN0 := Lib.hid hn0
  have HK := Lib.hid (fun i (hi : i ≤ n) => show kAt k0 L i ≤ 1099511627776 from Nat.le_trans (kAt_mono k0 L (by omega)) hk9)
  have HRW := Lib.hid hrow
  have HI := Lib.hid (fun q (hq : q < n) => show xs[q * 3]? = some (.int .i64 ((kAt k0 L q : Nat) : Int)) ∧ xs[q * 3 + 1]? = some (.int .i64 ((kAt k0 L q + 1 : Nat) : Int)) ∧ xs[q * 3 + 2]? = some (s q) ∧ w.ownsRow lo 3 1 (s q) (L.getD q bxD).2.2.length ((mrow (kAt k0 L q + 2) (L.getD q bxD).2.2.length).map (.int .i64)) from by
    have hqL : q < L.length := by omega
    have e := mkP_at k0 L L.length q hqL
    rw [if_pos hqL] at e
    have a := h2 q hqL
    have b := h3 q hqL
    rw [e] at a b
    refine ⟨a.1, a.2.1, a.2.2, ?_⟩
    have b' : w.ownsRow lo 3 1 (s q) (mrow (kAt k0 L q + 2) (L.getD q bxD).2.2.length).length ((mrow (kAt k0 L q + 2) (L.getD q bxD).2.2.length).map (.int .i64)) := b
    rw [mrow_len] at b'
    exact b')
  rw [show kAt k0 L L.length = kAt k0 L n from by rw [hn0]]
  rw [show L.length = n from hn0.symm] at h1 hn
  have H1 := Lib.hid h1
  clear h1 h2 h3 h4 h5 h6 hn0 hrow hk9
  go_enter Try.func47, Try.ntmps47
  go_wp2_with fail
  go_loopw [1, 5] (fun m v wr => ∃ (i : Nat), i ≤ n ∧ v = .int .i64 (i : Int) ∧ m = .int .i64 ((kAt k0 L i : Nat) : Int) ∧ Hid (Below w.heap.size w wr)) (fun _ v _ => n - (intOf v).toNat)
  case atStart => exact ⟨0, by omega, rfl, rfl, Below.refl _ _⟩
  case round =>
    obtain ⟨i, hi9, rfl, rfl, HB⟩ := hrel
    obtain ⟨y, hy⟩ : ∃ y, y = kAt k0 L i := ⟨_, rfl⟩
    have hy10 := Lib.hid (fun (h : i < n) => show kAt k0 L i + 2 + (L.getD i bxD).2.2.length ≤ 1099511627776 from HK.out (i + 1) h)
    rw [← hy] at hy10 ⊢
    have HYK := Lib.hid hy
    clear hy
    by_cases hin : i < n
    · obtain ⟨a0, a1, a2, ar⟩ := HI.out i hin
      rw [← HYK.out] at a0 a1 ar
      have hy9 := hy10.out hin
      have hiL : i < L.length := by rw [← HN0.out]; exact hin
      rcases H1.out.2 with ⟨-, e⟩ | ⟨G, cap, cur, e1, -⟩
      · exact absurd e (by omega)
      injection e1 with e1 e2 e3
      subst e1 e3
      have hGl := (H1.out.lt G rfl).2
      have c0 := (HB.out.cell (p := ⟨G, i * 3, none⟩) hGl).trans ((H1.out.cellAt (i * 3) (by omega)).trans a0)
      have c1 := (HB.out.cell (p := ⟨G, i * 3 + 1, none⟩) hGl).trans ((H1.out.cellAt (i * 3 + 1) (by omega)).trans a1)
      have c2 := (HB.out.cell (p := ⟨G, i * 3 + 2, none⟩) hGl).trans ((H1.out.cellAt (i * 3 + 2) (by omega)).trans a2)
      rw [show ((y + 1 : Nat) : Int) = (y : Int) + 1 by omega] at c1
      have hrd := Lib.hid (held_rd ar)
      obtain ⟨m9, hm9⟩ : ∃ m, m = (L.getD i bxD).2.2.length := ⟨_, rfl⟩
      have hm10 := HRW.out i hiL
      rw [← hm9] at hrd hy9 hm10
      have hhd := Lib.hid (heldIntS_v (y + 2) m9 hm10 (by omega) (s i) wr (hrd.out.later HB.out))
      rw [show ((y + 2 : Nat) : Int) = (y : Int) + 1 + 1 by omega] at hhd
      have HM9 := Lib.hid hm9
      have hi0 : (0 : Int) ≤ (i : Int) := by omega
      have hil : (i : Int) < (n : Int) := by omega
      have hwi : IntKind.i64.wrap ((i : Int) + 1) = (i : Int) + 1 := IntWalk.i64_in _ (by omega)
      have hwy : IntKind.i64.wrap ((y : Int) + 1) = (y : Int) + 1 := IntWalk.i64_in _ (by omega)
      have hwy2 : IntKind.i64.wrap ((y : Int) + 1 + 1) = (y : Int) + 1 + 1 := IntWalk.i64_in _ (by omega)
      have hne1 : ((y : Int) != (y : Int)) = false := by simp
      have hne2 : ((y : Int) + 1 != (y : Int) + 1) = false := by simp
      clear a0 a1 a2 ar hm9 e2
      go_wp2_with (go_at_call 78; refine hhd.out.mono ?_; rintro e w5 ⟨rfl, hb5⟩)
      go_roundw
      case rel =>
        refine ⟨i + 1, by omega, by congr 1, ?_, HB.out.trans (hb5.mono HB.out.size)⟩
        show Value.int .i64 _ = .int .i64 ((kAt k0 L i + 2 + (L.getD i bxD).2.2.length : Nat) : Int)
        rw [← HM9.out, ← HYK.out]
        all_goals first | rfl | (congr 1; omega)
      case measure => simp only [intOf]; omega
    · obtain rfl : i = n := by omega
      go_wp2_with fail
      go_ret
      exact ⟨by rw [HYK.out]; first | done | rfl, HB.out⟩

end Go.Proofs.Ytnkhjlpeeljelaa
