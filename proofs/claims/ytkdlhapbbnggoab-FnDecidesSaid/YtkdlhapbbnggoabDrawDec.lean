/- What the draws of any policy and any screen hand out. -/
import Derived.Test.YtkdlhapbbnggoabDrawScr2
import Derived.Laws.OwnMore
namespace Go.Proofs.Ytkdlhapbbnggoab
open Go.RowKit
set_option linter.unusedVariables false

/-- One of a list of numbers that lies in a block of its own. -/
theorem pickAt {B n : Nat} {p : Option Addr} {cap gc oc : Nat} {w : World} {g : Nat} (hn : n ≤ 1048576) (h : Cu B n p cap gc oc w g) (l : List Int) (gl m c : Nat) (hm : m = l.length) (hl0 : 0 < l.length) (hl : l.length ≤ 1000) (hgl : gl ≠ g) (vs : Array Value) (hvs : vs = (l.map (Value.int .i64)).toArray) (t : TypeId) (hb : w.heap[gl]? = some (.cells vs t (0, 0))) :
    Calls Try.prog 84 #[.pointer (some ⟨g, 0, none⟩), .slice (some ⟨gl, 0, none⟩) m c] w fun e w' => ∃ x ∈ l, e = .returned (.int .i64 x) ∧ Cu B n p cap gc oc w' g ∧ w.grownBy w' (some g) := by
  subst hm
  exact pickInt_any hn h l gl c hl0 hl hgl (blk_lt hb) (fun j hj => by rw [cell_of_row _ _ _ _ _ _ hb, hvs]; simp [hj])

/-- The end of the draw of any policy: block R gets what block T holds. -/
def AP (w w' : World) (B n : Nat) (p : Option Addr) (cap gc oc g : Nat) (v : Value) : Prop :=
  ∃ (pp : Option Addr) (q c gr o : Nat) (z : Nat → Int), v = .slice pp q c ∧ q ≤ c ∧ q ≤ 4 ∧ FlatAt w' w.heap.size w'.heap.size pp gr o q (fun j => .int .i64 (z j)) ∧ Cu B n p cap gc oc w' g ∧ w.grownBy w' (some g)

set_option maxRecDepth 100000 in
set_option maxHeartbeats 8000000 in
theorem l04AnyPolicy_any {B n : Nat} {p : Option Addr} {cap gc oc : Nat} {w : World} {g : Nat} (hn : n ≤ 1048576) (h : Cu B n p cap gc oc w g) :
    Calls Try.prog 99 #[.pointer (some ⟨g, 0, none⟩)] w fun e w' => ∃ v, e = .returned (.agg #[v]) ∧ AP w w' B n p cap gc oc g v := by
  obtain ⟨i0, hi, hz0, hz1, hz2⟩ := info_parts infoInt2
  have H := Lib.hid h
  have hgl := h.lt
  have hgB := h.base
  clear h
  go_enter Try.func99, Try.ntmps99
  go_wp2_with fail
  refine (l04Policy_any hn (H.out.allocd _)).mono ?_
  rintro e w1 ⟨x, y, z, k, hx, hy, hz, rfl, hk, hK, hc1, hg1⟩
  have hR1 : w1.heap[w.heap.size]? = some (.cells #[.slice none 0 0] 69 (0, 0)) := blk_grown (heap_new _ _ _ rfl) hg1 (by omega)
  have hk1 : w.heap.size + 1 ≤ k := by simpa using hk
  obtain ⟨w2, hw2⟩ : ∃ q, q = w1.alloc (.cells #[.slice (some ⟨k, 0, none⟩) 3 3] 69) := ⟨_, rfl⟩
  have C2 : Hid (Cu B n p cap gc oc w2 g) := by rw [hw2]; exact hc1.allocd _
  have G2 : Hid (w.grownBy w2 (some g)) := by rw [hw2]; exact grown_alloc2 ((World.grownBy_alloc w _ _).trans hg1) _
  have R2 : Hid (w2.heap[w.heap.size]? = some (.cells #[.slice none 0 0] 69 (0, 0))) := by rw [hw2]; exact (heap_old _ _ _ (blk_lt hR1)).trans hR1
  have T2 : Hid (w2.heap[w1.heap.size]? = some (.cells #[.slice (some ⟨k, 0, none⟩) 3 3] 69 (0, 0))) := by rw [hw2]; exact heap_new _ _ _ rfl
  have K2 : Hid (w2.heap[k]? = some (.cells #[.int .i64 x, .int .i64 y, .int .i64 z] 3 (0, 0))) := by rw [hw2]; exact (heap_old _ _ _ (blk_lt hK)).trans hK
  have hTk : k < w1.heap.size := blk_lt hK
  have hT2 : w1.heap.size < w2.heap.size := blk_lt T2.out
  clear hc1 hg1 hR1 hK hk
  go_wp2_with fail
  rw [← hw2]
  clear hw2
  refine (below_at hn C2.out 18 _ rfl (by omega) (by omega)).mono ?_
  rintro e w3 ⟨m, hm, rfl, hc3, hg3⟩
  have C3 := Lib.hid hc3
  have G3 := Lib.hid (G2.out.trans hg3)
  have R3 := Lib.hid (blk_grown R2.out hg3 (by omega))
  have T3 := Lib.hid (blk_grown T2.out hg3 (by omega))
  have K3 := Lib.hid (blk_grown K2.out hg3 (by omega))
  have hs3 : w2.heap.size ≤ w3.heap.size := hg3.size
  clear hc3 hg3
  obtain ⟨r0, r1⟩ := cells1 R3.out
  obtain ⟨t0, t1⟩ := cells1 T3.out
  have hRT : w.heap.size ≠ w1.heap.size := by omega
  have hTR : w1.heap.size ≠ w.heap.size := by omega
  have hflat : ∀ W : World, ∀ a b c : Int, W.heap[k]? = some (.cells #[.int .i64 a, .int .i64 b, .int .i64 c] 3 (0, 0)) → ∀ q, q ≤ 3 → FlatAt W w.heap.size W.heap.size (some ⟨k, 0, none⟩) k 0 q (fun j => .int .i64 (if j = 0 then a else if j = 1 then b else c)) := fun W a b c hW q hq =>
    ⟨fun _ => ⟨rfl, by omega, blk_lt hW⟩, fun j hj => by
      rw [Nat.zero_add, cell_of_row _ _ _ _ _ _ hW]
      match j, hj with
      | 0, _ => rfl
      | 1, _ => rfl
      | 2, _ => rfl
      | j + 3, hj => omega⟩
  have HFL := Lib.hid hflat
  clear hflat
  by_cases m0 : m = 0
  · subst m0
    go_wp2_with fail
    have hkT : w1.heap.size ≠ k := by omega
    have hTk' : k ≠ w1.heap.size := by omega
    have hkR : w.heap.size ≠ k := by omega
    have hRk' : k ≠ w.heap.size := by omega
    have hkg : k ≠ g := by omega
    have hTg : w1.heap.size ≠ g := by omega
    have hRg : w.heap.size ≠ g := by omega
    have hg3 : g < w3.heap.size := C3.out.lt
    have hYg : w3.heap.size ≠ g := by omega
    have hDx : ∀ W : World, W.grownBy W.drew (some g) := fun W => ⟨rfl, rfl, rfl, Nat.le_refl _, fun _ _ _ => rfl⟩
    have hD3 : w3.grownBy w3.drew (some g) := ⟨rfl, rfl, rfl, Nat.le_refl _, fun _ _ _ => rfl⟩
    go_region_held3 (fun K => K.cell? ⟨w1.heap.size, 0, none⟩ = some (.slice (some ⟨k, 0, none⟩) 3 3))
      (first | exact t0 | exact kt2 | exact kt1 | go_keep)
      (first
        | (go_at_call 86; (first | (with_reducible refine (below_at hn C3.out.drewn 3 _ (by omega) (by omega) (by omega)).mono ?_) | (with_reducible refine (below_at hn (C3.out.allocd _).drewn 3 _ (by omega) (by omega) (by omega)).mono ?_)); rintro e k1 ⟨i, hi, rfl, c1, gr1⟩; have C1 := Lib.hid c1; (first | (have hg := (G3.out.trans hD3).trans gr1; have GR1 := Lib.hid hg; have kt1 := (cells1 (blk_grown (w := w3.drew) T3.out gr1 hTg)).1; have KT1 := Lib.hid (blk_grown (w := w3.drew) T3.out gr1 hTg); have KK1 := Lib.hid (blk_grown (w := w3.drew) K3.out gr1 hkg); have RX1 := Lib.hid (blk_grown (w := w3.drew) R3.out gr1 hRg)) | (have hg := ((grown_alloc2 G3.out _).trans (hDx _)).trans gr1; have GR1 := Lib.hid hg; have kt1 := (cells1 (blk_grown (w := (w3.alloc _).drew) ((heap_old _ _ _ (blk_lt T3.out)).trans T3.out) gr1 hTg)).1; have KT1 := Lib.hid (blk_grown (w := (w3.alloc _).drew) ((heap_old _ _ _ (blk_lt T3.out)).trans T3.out) gr1 hTg); have KK1 := Lib.hid (blk_grown (w := (w3.alloc _).drew) ((heap_old _ _ _ (blk_lt K3.out)).trans K3.out) gr1 hkg); have RX1 := Lib.hid (blk_grown (w := (w3.alloc _).drew) ((heap_old _ _ _ (blk_lt R3.out)).trans R3.out) gr1 hRg); have Y := blk_grown (heap_newd w3 _) gr1 hYg)); clear c1 gr1; clear hg)
        | (go_at_call 84; (first | ((refine (pickAt hn C1.out [0, 5000, 5001, -1] w3.heap.size 4 4 rfl (by decide) (by decide) hYg _ rfl _ Y).mono ?_); rintro e k2 ⟨u, hu, rfl, c2, gr2⟩; have KT2 := Lib.hid (blk_grown KT1.out gr2 hTg); have KK2 := Lib.hid (blk_grown KK1.out gr2 hkg); have RX2 := Lib.hid (blk_grown RX1.out gr2 hRg); have GR2 := Lib.hid (GR1.out.trans gr2)) | ((refine (pickNew hn C1.out [0, 5000, 5001, -1] 4 4 rfl (by decide) (by decide) _ rfl _).mono ?_); rintro e k2 ⟨u, hu, rfl, c2, gr2⟩; have KT2 := Lib.hid (blk_grown KT1.out gr2 hTg); have KK2 := Lib.hid (blk_grown KK1.out gr2 hkg); have RX2 := Lib.hid (blk_grown RX1.out gr2 hRg); have GR2 := Lib.hid (GR1.out.trans gr2))); have C2' := Lib.hid c2; have hi3 : (i : Int) < 3 := (by omega); have hi0 : (0 : Int) ≤ (i : Int) := (by omega); have kt2 := (cells1 KT2.out).1; obtain ⟨xi, hxi⟩ : ∃ q, (#[Value.int .i64 x, .int .i64 y, .int .i64 z] : Array Value)[i]? = some q := ⟨_, Array.getElem?_eq_getElem (by simpa using hi)⟩; have kc2 := (cell_of_row k2 k i _ _ _ KK2.out).trans hxi; have kf2 := frozen_of_row k2 k i _ _ KK2.out; clear gr2 c2 hxi))
    all_goals
      have KT := (blk_far (w := k2) (g := w1.heap.size) (q := ⟨k, i, none⟩) (u := .int .i64 u) (by show k ≠ w1.heap.size; omega)).trans KT2.out
      have KR := (blk_far (w := k2) (g := w.heap.size) (q := ⟨k, i, none⟩) (u := .int .i64 u) (by show k ≠ w.heap.size; omega)).trans RX2.out
      have hFL := FlatAt.set (u := .int .i64 u) (HFL.out k2 x y z KK2.out 3 (by omega)) i (by omega)
      rw [Nat.zero_add] at hFL
      have CC := C2'.out.far ⟨k, i, none⟩ (.int .i64 u) (by show g ≠ k; omega) (by show B ≤ k; omega)
      have GG := grown_setCell GR2.out (p := ⟨k, i, none⟩) (.inr (by show w.heap.size ≤ k; omega)) (.int .i64 u)
      have hRs : w.heap.size < k2.heap.size := blk_lt RX2.out
      clear kt2 kt1 t0 t1 r0 r1 kc2 kf2
      obtain ⟨wW, hW⟩ : ∃ q, q = k2.setCell ⟨k, i, none⟩ (.int .i64 u) := ⟨_, rfl⟩
      rw [← hW] at KT KR CC GG hFL ⊢
      have hWs : wW.heap.size = k2.heap.size := by rw [hW]; simp [World.setCell]
      rw [← hWs] at hFL hRs
      obtain ⟨r0, r1⟩ := cells1 KR
      obtain ⟨t0, t1⟩ := cells1 KT
      have HFL2 := Lib.hid hFL
      have HCC := Lib.hid CC
      have HGG := Lib.hid GG
      clear hFL CC GG hW hWs
      go_wp2_with fail
      have PP := blk_set (o := 0) KR (.slice (some ⟨k, 0, none⟩) 3 3)
      refine bodyPost_ret (v := .agg #[.slice (some ⟨k, 0, none⟩) 3 3]) (by have y0 := (cells1 PP).1; simp [results, Try.results99, go_sem, y0]) rfl ⟨_, rfl, _, 3, 3, k, 0, fun j => if j = i then u else (if j = 0 then x else if j = 1 then y else z), rfl, by omega, by omega, ?_, HCC.out.far _ _ (by show g ≠ w.heap.size; omega) (by show B ≤ w.heap.size; omega), grown_setCell HGG.out (p := ⟨w.heap.size, 0, none⟩) (.inr (Nat.le_refl _)) _⟩
      have hkW : k < wW.heap.size := HFL2.out.lt (by omega)
      have h1 : FlatAt wW k (k + 1) (some ⟨k, 0, none⟩) k 0 3 _ := ⟨fun _ => ⟨rfl, Nat.le_refl _, Nat.lt_succ_self _⟩, HFL2.out.2⟩
      exact ((h1.far (q := ⟨w.heap.size, 0, none⟩) (.slice (some ⟨k, 0, none⟩) 3 3) (by show w.heap.size < k ∨ k + 1 ≤ w.heap.size; omega)).wide (lo' := w.heap.size) (by omega) (by simp only [World.setCell, Array.size_modify]; omega)).congr (fun j hj => by
        show (if j = i then _ else _) = Value.int .i64 (if j = i then _ else _)
        by_cases e : j = i
        · rw [if_pos e, if_pos e]
        · rw [if_neg e, if_neg e])
  have m0d : ((m : Int) == 0) = false := by simpa using (show ¬ (m : Int) = 0 by omega)
  by_cases m1 : m = 1
  · subst m1
    go_wp2_with fail
    have PP := blk_set (o := 0) ((blk_far (q := ⟨w1.heap.size, 0, none⟩) (u := .slice (some ⟨k, 0, none⟩) 2 3) hTR).trans R3.out) (.slice (some ⟨k, 0, none⟩) 2 3)
    have KK := (blk_far (w := w3.setCell ⟨w1.heap.size, 0, none⟩ (.slice (some ⟨k, 0, none⟩) 2 3)) (g := k) (q := ⟨w.heap.size, 0, none⟩) (u := .slice (some ⟨k, 0, none⟩) 2 3) (by show w.heap.size ≠ k; omega)).trans ((blk_far (q := ⟨w1.heap.size, 0, none⟩) (by show w1.heap.size ≠ k; omega)).trans K3.out)
    refine bodyPost_ret (v := .agg #[.slice (some ⟨k, 0, none⟩) 2 3]) (by have y0 := (cells1 PP).1; simp [results, Try.results99, go_sem, y0]) rfl ⟨_, rfl, _, 2, 3, k, 0, _, rfl, by omega, by omega, HFL.out _ _ _ _ KK 2 (by omega), (C3.out.far _ _ (by show g ≠ w1.heap.size; omega) (by show B ≤ w1.heap.size; omega)).far _ _ (by show g ≠ w.heap.size; omega) (by show B ≤ w.heap.size; omega), grown_setCell (grown_setCell G3.out (p := ⟨w1.heap.size, 0, none⟩) (.inr (by show w.heap.size ≤ w1.heap.size; omega)) _) (p := ⟨w.heap.size, 0, none⟩) (.inr (Nat.le_refl _)) _⟩
  have m1d : ((m : Int) == 1) = false := by simpa using (show ¬ (m : Int) = 1 by omega)
  by_cases m2 : m = 2
  · subst m2
    have hown : w3.ownsRow w.heap.size 3 1 (.slice (some ⟨k, 0, none⟩) 3 3) 3 [.int .i64 x, .int .i64 y, .int .i64 z] := ⟨rfl, .inr ⟨k, 3, #[.int .i64 x, .int .i64 y, .int .i64 z], rfl, by omega, K3.out, Nat.le_refl _, by unfold maxLen; omega, rfl, rfl⟩⟩
    have HO := Lib.hid hown
    clear hown
    have hkR : ∀ W4, (w3.alloc (.cells #[.int .i64 3] 3)).grownBy W4 (some k) → W4.heap[w.heap.size]? = some (.cells #[.slice none 0 0] 69 (0, 0)) := fun W4 hg => (hg.block w.heap.size (by simp; omega) (fun e => by have := Option.some.inj e; omega)).trans ((heap_old _ _ _ (blk_lt R3.out)).trans R3.out)
    have hkT : ∀ W4, (w3.alloc (.cells #[.int .i64 3] 3)).grownBy W4 (some k) → W4.heap[w1.heap.size]? = some (.cells #[.slice (some ⟨k, 0, none⟩) 3 3] 69 (0, 0)) := fun W4 hg => (hg.block w1.heap.size (by simp; omega) (fun e => by have := Option.some.inj e; omega)).trans ((heap_old _ _ _ (blk_lt T3.out)).trans T3.out)
    have hkC : ∀ W4, (w3.alloc (.cells #[.int .i64 3] 3)).grownBy W4 (some k) → Cu B n p cap gc oc W4 g := fun W4 hg => (C3.out.allocd _).grown hg (fun e => by have := Option.some.inj e; omega) (fun j hj => by have := Option.some.inj hj; omega)
    have hkG : ∀ W4, (w3.alloc (.cells #[.int .i64 3] 3)).grownBy W4 (some k) → w.grownBy W4 (some g) := fun W4 hg => by
      have h1 := grown_alloc2 G3.out (.cells #[.int .i64 3] 3)
      exact ⟨hg.os.trans h1.os, hg.tape.trans h1.tape, hg.output.trans h1.output, Nat.le_trans h1.size hg.size, fun j hj hne => (hg.block j (by have := h1.size; omega) (fun e => by have := Option.some.inj e; omega)).trans (h1.block j hj hne)⟩
    have HKC := Lib.hid hkC
    have HKG := Lib.hid hkG
    have HAT0 : Hid (∀ g4 : Nat, (some k = some g4 ∨ g4 = w3.heap.size + 1) → g4 = k ∨ g4 = w3.heap.size + 1) := fun g4 h => h.imp (fun e => (Option.some.inj e).symm) id
    have HKR := Lib.hid hkR
    have HKT := Lib.hid hkT
    clear hkR hkT hkC hkG
    go_wp2_with (at_builtin; refine wpList_append_lies _ rfl _ _ 26 rfl w.heap.size 3 i0 (.int .i64 0) 1 8 Try.underlying26 hi hz0 hz1 hz2 rfl (by decide) _ 3 _ rfl (HO.out.alloc _) ⟨w3.heap.size, 0, none⟩ 1 1 [.int .i64 3] rfl rfl (by intro j u hj; match j, hj with | 0, hj => simp at hj; subst hj; simp [Addr.add]) (by intro u hu; simp at hu; subst hu; rfl) (by omega) (by unfold maxLen; omega) (by omega) (by simp; omega) (w3.heap.size + 1) (by simp) ?_; intro g4 cap4 w4 hown4 hgrow4 hat4 hlt4; have HO4 := Lib.hid hown4; have HAT := Lib.hid (HAT0.out _ hat4); have RR4 := Lib.hid (HKR.out _ hgrow4); have TT4 := Lib.hid (HKT.out _ hgrow4); have CC4 := Lib.hid (HKC.out _ hgrow4); have GG4 := Lib.hid (HKG.out _ hgrow4); clear r0 r1 t0 t1 hown4 hgrow4 hat4; obtain ⟨r0, r1⟩ := cells1 RR4.out; obtain ⟨t0, t1⟩ := cells1 TT4.out)
    have hg4 := HAT.out
    have hb4 := (HO4.out.lt g4 rfl).1
    have PP := blk_set (o := 0) ((blk_far (w := w4) (q := ⟨w1.heap.size, 0, none⟩) (u := .slice (some ⟨g4, 0, none⟩) 4 cap4) hTR).trans RR4.out) (.slice (some ⟨g4, 0, none⟩) 4 cap4)
    obtain ⟨g', hF, -⟩ := FlatAt.of_own (f := fun j => Value.int .i64 (if j = 0 then x else if j = 1 then y else if j = 2 then z else 3)) (n := 4) HO4.out (fun j hj => by
      match j, hj with
      | 0, _ => rfl
      | 1, _ => rfl
      | 2, _ => rfl
      | 3, _ => rfl)
    obtain ⟨he, -, -⟩ := hF.1 (by omega)
    injection he with he
    injection he with he
    subst he
    have hFT : FlatAt w4 g4 (g4 + 1) (some ⟨g4, 0, none⟩) g4 0 4 (fun j => Value.int .i64 (if j = 0 then x else if j = 1 then y else if j = 2 then z else 3)) := ⟨fun _ => ⟨rfl, Nat.le_refl _, Nat.lt_succ_self _⟩, hF.2⟩
    have hFW := ((hFT.far (q := ⟨w1.heap.size, 0, none⟩) (.slice (some ⟨g4, 0, none⟩) 4 cap4) (by show w1.heap.size < g4 ∨ g4 + 1 ≤ w1.heap.size; omega)).far (q := ⟨w.heap.size, 0, none⟩) (.slice (some ⟨g4, 0, none⟩) 4 cap4) (by show w.heap.size < g4 ∨ g4 + 1 ≤ w.heap.size; omega)).wide (lo' := w.heap.size) (hi' := ((w4.setCell ⟨w1.heap.size, 0, none⟩ (.slice (some ⟨g4, 0, none⟩) 4 cap4)).setCell ⟨w.heap.size, 0, none⟩ (.slice (some ⟨g4, 0, none⟩) 4 cap4)).heap.size) hb4 (by have := hlt4; simp only [World.setCell, Array.size_modify]; omega)
    refine bodyPost_ret (v := .agg #[.slice (some ⟨g4, 0, none⟩) 4 cap4]) (by have y0 := (cells1 PP).1; simp [results, Try.results99, go_sem, y0]) rfl ⟨_, rfl, _, 4, cap4, g4, 0, _, rfl, (by obtain ⟨-, h | ⟨a1, a2, a3, h1, -, -, h5, -⟩⟩ := HO4.out; exact absurd h.2 (by omega); injection h1 with _ _ h3; omega), by omega, hFW, (CC4.out.far _ _ (by show g ≠ w1.heap.size; omega) (by show B ≤ w1.heap.size; omega)).far _ _ (by show g ≠ w.heap.size; omega) (by show B ≤ w.heap.size; omega), grown_setCell (grown_setCell GG4.out (p := ⟨w1.heap.size, 0, none⟩) (.inr (by show w.heap.size ≤ w1.heap.size; omega)) _) (p := ⟨w.heap.size, 0, none⟩) (.inr (Nat.le_refl _)) _⟩
  · have m2d : ((m : Int) == 2) = false := by simpa using (show ¬ (m : Int) = 2 by omega)
    go_wp2_with fail
    have PP := blk_set (o := 0) R3.out (.slice (some ⟨k, 0, none⟩) 3 3)
    have KK := (blk_far (w := w3) (g := k) (q := ⟨w.heap.size, 0, none⟩) (u := .slice (some ⟨k, 0, none⟩) 3 3) (by show w.heap.size ≠ k; omega)).trans K3.out
    refine bodyPost_ret (v := .agg #[.slice (some ⟨k, 0, none⟩) 3 3]) (by have y0 := (cells1 PP).1; simp [results, Try.results99, go_sem, y0]) rfl ⟨_, rfl, _, 3, 3, k, 0, _, rfl, by omega, by omega, HFL.out _ _ _ _ KK 3 (by omega), C3.out.far _ _ (by show g ≠ w.heap.size; omega) (by show B ≤ w.heap.size; omega), grown_setCell G3.out (p := ⟨w.heap.size, 0, none⟩) (.inr (Nat.le_refl _)) _⟩

end Go.Proofs.Ytkdlhapbbnggoab
