/- What the program's LoopOk returns. -/
import Derived.Test.YtokhkcebdbopcabBagsOf
import Derived.Test.YtokhkcebdbopcabLoopLaw
import Derived.Test.YtokhkcebdbopcabWants
import Derived.Laws.AppendOwnNone
namespace Go.Proofs.Ytokhkcebdbopcab
open Go.RowKit
set_option linter.unusedVariables false

theorem ownsN_base {B B' : Nat} {e : TypeId} {k : Nat} {v : Value} {n : Nat} {xs : List Value} {w : World} (h : w.ownsRow B e k v n xs) (hB : B' ≤ B) : w.ownsRow B' e k v n xs := by
  obtain ⟨h1, h2⟩ := h
  refine ⟨h1, ?_⟩
  rcases h2 with h2 | ⟨g, cap, cur, a, b, c⟩
  · exact .inl h2
  · exact .inr ⟨g, cap, cur, a, by omega, c⟩
theorem flatI_of_list {w : World} {B : Nat} {t : TypeId} {p : Option Addr} {c : Nat} {l : List Int} (h : w.ownsRow B t 1 (.slice p l.length c) l.length (l.map (.int .i64))) :
    ∃ g, FlatAt w B w.heap.size p g 0 l.length (fun j => .int .i64 (l.getD j 0)) := by
  obtain ⟨g, h1, -⟩ := FlatAt.of_own (f := fun j => .int .i64 (l.getD j 0)) h (fun j hj => by
    rw [List.getElem?_map, List.getElem?_eq_getElem (show j < l.length by omega), List.getD_eq_getElem?_getD, List.getElem?_eq_getElem (show j < l.length by omega)]; rfl)
  rw [Nat.mul_one] at h1
  exact ⟨g, h1⟩
/-- All bags of a loop: those on trays, then those in the first k chutes. -/
def lpB (x : Nat → Int) (n1 : Nat) (m2 : Nat → Nat) (y2 : Nat → Nat → Int) : Nat → List Int
  | 0 => nzL x n1
  | k + 1 => lpB x n1 m2 y2 k ++ (List.range (m2 k)).map (y2 k)
def bgP (l : List Int) : Prop := (∀ x, x ∈ l → 1 ≤ x) ∧ l.Nodup
instance (l : List Int) : Decidable (bgP l) := by unfold bgP; exact inferInstance
theorem bgOk_listP (l : List Int) : bgOk (fun j => l.getD j 0) l.length ↔ bgP l := by
  have hget : ∀ j (h : j < l.length), l.getD j 0 = l[j] := fun j h => by rw [List.getD_eq_getElem?_getD, List.getElem?_eq_getElem h]; rfl
  unfold bgOk bgP dif
  constructor
  · rintro ⟨h1, h2⟩
    refine ⟨fun x hx => ?_, ?_⟩
    · obtain ⟨j, hj, e⟩ := List.getElem_of_mem hx
      rw [← e, ← hget j hj]; exact h1 j hj
    · rw [List.nodup_iff_pairwise_ne, List.pairwise_iff_getElem]
      intro i j hi hj hij
      rw [← hget i hi, ← hget j hj]; exact h2 i j hij hj
  · rintro ⟨h1, h2⟩
    refine ⟨fun j hj => ?_, fun i j hij hj => ?_⟩
    · show 1 ≤ l.getD j 0
      rw [hget j hj]; exact h1 _ (List.getElem_mem hj)
    · rw [List.nodup_iff_pairwise_ne, List.pairwise_iff_getElem] at h2
      show l.getD i 0 ≠ l.getD j 0
      rw [hget j hj, hget i (by omega)]; exact h2 i j (by omega) hj hij
/-- The loop is valid. -/
def lpO (T : Int) (n1 n2 n3 : Nat) (x a2 a3 : Nat → Int) (m2 m3 : Nat → Nat) (y2 y3 : Nat → Nat → Int) : Prop :=
  (2 ≤ n1 ∧ n1 ≤ 60) ∧ (0 ≤ T ∧ T ≤ (n1 : Int) - 1) ∧ bgP (lpB x n1 m2 y2 n2) ∧ chP a2 m2 n2 (n1 : Int) ∧ wtP a3 m3 y3 n3 (n2 : Int)
instance (T : Int) (n1 n2 n3 : Nat) (x a2 a3 : Nat → Int) (m2 m3 : Nat → Nat) (y2 y3 : Nat → Nat → Int) : Decidable (lpO T n1 n2 n3 x a2 a3 m2 m3 y2 y3) := by unfold lpO; exact inferInstance
theorem lpB_len {x : Nat → Int} {n1 : Nat} {m2 : Nat → Nat} {y2 : Nat → Nat → Int} : ∀ k, (lpB x n1 m2 y2 k).length ≤ n1 + totN m2 k
  | 0 => nzL_len x n1
  | k + 1 => by
    have := lpB_len (x := x) (n1 := n1) (m2 := m2) (y2 := y2) k
    show (lpB x n1 m2 y2 k ++ _).length ≤ n1 + (totN m2 k + m2 k)
    simp
    omega
theorem nzL_mem {x : Nat → Int} {v : Int} : ∀ k, v ∈ nzL x k → ∃ j, j < k ∧ x j = v
  | 0, h => absurd h List.not_mem_nil
  | k + 1, h => by
    by_cases e : x k = 0
    · rw [nzL_zero e] at h
      obtain ⟨j, hj, h1⟩ := nzL_mem k h
      exact ⟨j, by omega, h1⟩
    · rw [nzL_one e] at h
      rcases List.mem_append.1 h with h | h
      · obtain ⟨j, hj, h1⟩ := nzL_mem k h
        exact ⟨j, by omega, h1⟩
      · exact ⟨k, by omega, (show v = x k by simpa using h).symm⟩
theorem lpB_wf {x : Nat → Int} {n1 : Nat} {m2 : Nat → Nat} {y2 : Nat → Nat → Int} (hx : ∀ j, j < n1 → (Lit.int .i64 (x j)).wf = true) : ∀ k, (∀ i, i < k → ∀ j, j < m2 i → (Lit.int .i64 (y2 i j)).wf = true) → ∀ v, v ∈ lpB x n1 m2 y2 k → (Lit.int .i64 v).wf = true
  | 0, _, v, h => by
    obtain ⟨j, hj, rfl⟩ := nzL_mem n1 h
    exact hx j hj
  | k + 1, hy, v, h => by
    rcases List.mem_append.1 h with h | h
    · exact lpB_wf hx k (fun i hi => hy i (by omega)) v h
    · obtain ⟨j, hj, rfl⟩ := List.mem_map.1 h
      exact hy k (by omega) j (by simpa using hj)

set_option maxRecDepth 100000 in
set_option maxHeartbeats 4000000 in
theorem iTrays_any (T : Int) (a1 : Addr) (p2 p3 : Option Addr) (c1 c2 c3 n1 n2 n3 : Nat) (h1 : n1 ≤ 1048576) (x : Nat → Int) (w : World) (r1 : Rd w (.slice (some a1) n1 c1) n1 n1 x) :
    Calls Try.prog 82 #[.agg #[.slice (some a1) n1 c1, .int .i64 T, .slice p2 n2 c2, .slice p3 n3 c3]] w fun e w' => ∃ p' c', e = .returned (.slice p' (nzL x n1).length c') ∧ w'.ownsRow w.heap.size 3 1 (.slice p' (nzL x n1).length c') (nzL x n1).length ((nzL x n1).map (.int .i64)) ∧ Below w.heap.size w w' := by
  obtain ⟨i0, hi, hz0, hz1, hz2⟩ := info_parts infoIntB
  obtain ⟨p', c', g, o, he, hc, hf⟩ := r1
  injection he with e1 _ e3
  subst e3
  have hsrc : ∀ (W : World), Below w.heap.size w W → ∀ (i : Nat) (u : Value), ((List.range n1).map (fun j => Value.int .i64 (x j)))[i]? = some u → W.cell? (a1.add i) = some u := fun W hW i u hu => by
    have hi2 : i < n1 := by
      rcases Nat.lt_or_ge i n1 with h9 | h9
      · exact h9
      · rw [List.getElem?_eq_none (by simp; omega)] at hu; cases hu
    rw [List.getElem?_map, List.getElem?_range hi2] at hu
    simp at hu
    subst hu
    have h7 := hf.1 (by omega)
    rw [← e1] at h7
    obtain ⟨h7, -, h8⟩ := h7
    injection h7 with h7
    subst h7
    rw [Go.WideShapes.add_plain]
    exact (hW.cell (p := ⟨g, o + i, none⟩) h8).trans (hf.2 i hi2)
  have HSRC := Lib.hid hsrc
  have hlen : ((List.range n1).map (fun j => Value.int .i64 (x j))).length = n1 * 1 := by simp
  have hone : ∀ u ∈ (List.range n1).map (fun j => Value.int .i64 (x j)), u.oneCell' = true := by
    intro u hu
    obtain ⟨j, -, rfl⟩ := List.mem_map.1 hu
    rfl
  obtain ⟨news, hnews⟩ : ∃ news, news = (List.range n1).map (fun j => Value.int .i64 (x j)) := ⟨_, rfl⟩
  rw [← hnews] at hlen hone HSRC
  have HN := Lib.hid hnews
  have HLEN := Lib.hid hlen
  have HONE := Lib.hid hone
  clear hf hsrc hnews hlen hone e1
  go_enter Try.func82, Try.ntmps82
  go_wp2_with (at_builtin; refine wpList_append_own _ rfl _ _ 22 rfl (w.heap.size + 1) 3 i0 (.int .i64 0) 1 8 Try.underlying22 hi hz0 hz1 hz2 rfl (by decide) _ 0 [] rfl ⟨rfl, .inr ⟨w.heap.size + 1, 0, #[], rfl, Nat.le_refl _, heap_new _ _ _ (by simp), Nat.le_refl _, by decide, by simp, by simp⟩⟩ a1 n1 c1 news rfl HLEN.out (HSRC.out _ (((Below.refl _ _).alloc (Nat.le_refl _) _).alloc (by simp) _)) HONE.out (by unfold maxLen; omega) (by omega) (by simp) ?_; intro v' w3 hown3 hgrow3 hnil3)
  obtain ⟨g3, cap, cur, rfl, hB3, hbk3, hnc3, hcm3, hcs3, htk3⟩ : ∃ g cap cur, v' = .slice (some ⟨g, 0, none⟩) n1 cap ∧ w.heap.size + 1 ≤ g ∧ w3.heap[g]? = some (.cells cur 3 (0, 0)) ∧ n1 ≤ cap ∧ cap ≤ maxLen ∧ cur.size = cap * 1 ∧ cur.toList.take (n1 * 1) = news := by
    rw [Nat.zero_add, List.nil_append] at hown3
    rcases hown3.2 with ⟨rfl, h0⟩ | ⟨g, cap, cur, h, h5, h6, h7, h8, h9, h10⟩
    · have := (hnil3.1 rfl).1
      cases this
    · exact ⟨g, cap, cur, h, h5, h6, h7, h8, h9, h10⟩
  have hb3 : Below w.heap.size w w3 := Below.grown (((Below.refl _ _).alloc (Nat.le_refl _) _).alloc (by simp) _) hgrow3 (by simp <;> omega) (fun j hj => by
    have hj2 : Value.ownBlock (.slice (some ⟨w.heap.size + 1, 0, none⟩) 0 0) = some j := hj
    injection hj2 with hj3
    have hj4 : w.heap.size + 1 = j := hj3
    omega)
  rw [Nat.zero_add, List.nil_append] at hown3
  obtain ⟨g9, hF9, hR9⟩ := FlatAt.of_own (f := fun j => .int .i64 (x j)) hown3 (fun j hj => by rw [HN.out, List.getElem?_map, List.getElem?_range (by omega)]; rfl)
  rw [Nat.mul_one] at hF9 hR9
  have hg9 : 0 < n1 → g9 = g3 := fun h0 => by
    have := (hF9.1 h0).1
    injection this with this
    injection this with this
    exact this.symm
  have hlt3 : g3 < w3.heap.size := (Array.getElem?_eq_some_iff.1 hbk3).1
  have hF3 : FlatAt w3 (w.heap.size + 1) w3.heap.size (some ⟨g3, 0, none⟩) g3 0 n1 (fun j => .int .i64 (x j)) := ⟨fun h0 => ⟨rfl, hB3, hlt3⟩, fun j hj => by rw [← hg9 (by omega)]; exact hF9.2 j hj⟩
  have hR3 : FreeAt w3 g3 0 n1 := fun j hj => by rw [← hg9 (by omega)]; exact hR9 j hj
  have hdl := Lib.hid (delete_any n1 h1 x cap g3 (w.heap.size + 1) w3.heap.size w3 hF3 (Nat.le_refl _) hR3 hnc3 3 cur hbk3)
  have HB3 := Lib.hid hb3
  have HC3 := Lib.hid hcs3
  have HM3 := Lib.hid hcm3
  have HN3 := Lib.hid hnc3
  clear hown3 hgrow3 hnil3 hF9 hR9 hg9 hF3 hR3 hbk3 hb3 htk3 hcs3 hcm3 hnc3 HSRC HONE HLEN HN
  have hl3 := nzL_len x n1
  obtain ⟨NL, hNL⟩ : ∃ NL, NL = nzL x n1 := ⟨_, rfl⟩
  rw [← hNL] at hdl hl3
  have HNL := Lib.hid hNL
  clear hNL
  refine hdl.out.mono ?_
  rintro e w4 ⟨rfl, hcells, hg4, cur4, hbk4, hcs4⟩
  have HCL := Lib.hid hcells
  have HG4 := Lib.hid hg4
  have HK4 := Lib.hid hbk4
  have HS4 := Lib.hid hcs4
  clear hcells hg4 hbk4 hcs4 hdl
  go_wp2_with fail
  go_ret
  have hown4 : w4.ownsRow w.heap.size 3 1 (.slice (some ⟨g3, 0, none⟩) NL.length cap) NL.length (NL.map (.int .i64)) := by
    refine ⟨by simp, .inr ⟨g3, cap, cur4, rfl, by omega, HK4.out, by have := HN3.out; omega, HM3.out, by rw [HS4.out]; exact HC3.out, ?_⟩⟩
    have hsz4 : cur4.size = cap * 1 := by rw [HS4.out]; exact HC3.out
    have hn3 := HN3.out
    apply List.ext_getElem?
    intro j
    by_cases hj : j < NL.length
    · rw [List.getElem?_take_of_lt (by omega), Array.getElem?_toList]
      have h1 := HCL.out j hj
      rw [cell_of_row w4 g3 j cur4 3 (0, 0) HK4.out] at h1
      rw [h1, List.getElem?_map, List.getElem?_eq_getElem hj, List.getD_eq_getElem?_getD, List.getElem?_eq_getElem hj]; rfl
    · rw [List.getElem?_take_eq_none (by omega), List.getElem?_eq_none (by simp; omega)]
  refine ⟨some ⟨g3, 0, none⟩, cap, ?_, ?_, ?_⟩
  · rw [← HNL.out]; rfl
  · rw [← HNL.out]; exact hown4
  · exact HB3.out.trans ⟨HG4.out.os, HG4.out.tape, HG4.out.output, HG4.out.size, fun k hk => HG4.out.block k (by have := HB3.out.size; omega) (by intro e; injection e with e; omega)⟩

set_option maxRecDepth 100000 in
set_option maxHeartbeats 4000000 in
theorem iBagsOf_any (T : Int) (p1 p2 p3 : Option Addr) (c1 c2 c3 n1 n2 n3 : Nat) (h1 : n1 ≤ 1048576) (h2 : n2 ≤ 1048576) (x a2 a3 : Nat → Int) (m2 m3 : Nat → Nat) (y2 y3 : Nat → Nat → Int) (ht : n1 + totN m2 n2 ≤ 1048576) (w : World)
    (r : LpRs w p1 p2 p3 c1 c2 c3 n1 n2 n3 x a2 a3 m2 m3 y2 y3) :
    Calls Try.prog 59 #[.agg #[.slice p1 n1 c1, .int .i64 T, .slice p2 n2 c2, .slice p3 n3 c3]] w fun e w' => ∃ p' c', e = .returned (.slice p' (lpB x n1 m2 y2 n2).length c') ∧ w'.ownsRow w.heap.size 3 1 (.slice p' (lpB x n1 m2 y2 n2).length c') (lpB x n1 m2 y2 n2).length ((lpB x n1 m2 y2 n2).map (.int .i64)) ∧ Below w.heap.size w w' := by
  obtain ⟨i0, hi, hz0, hz1, hz2⟩ := info_parts infoIntB
  have ck := cellsChute
  obtain ⟨r1, ⟨q1, rfl⟩, r2, -⟩ := r
  have htr := Lib.hid (fun W (hW : Below w.heap.size w W) => iTrays_any T q1 p2 p3 c1 c2 c3 n1 n2 n3 h1 x W (r1.later hW))
  obtain ⟨p0, c0, g, o, s, he, hc, hf, hr⟩ := r2
  injection he with e1 e2 e3
  subst e1 e3
  clear e2
  have HF := Lib.hid hf
  have HR := Lib.hid hr
  have hlb := Lib.hid (fun k (hk : k ≤ n2) => show (lpB x n1 m2 y2 k).length ≤ 1048576 from by
    have := lpB_len (x := x) (n1 := n1) (m2 := m2) (y2 := y2) k
    have := totN_le (nn := m2) hk
    omega)
  have hmb := Lib.hid (fun k (hk : k < n2) => show m2 k ≤ 1048576 from by have := totN_one (nn := m2) hk; omega)
  clear r1 hf hr ht
  go_enter Try.func59, Try.ntmps59
  go_wp2_with fail
  refine (htr.out _ ((Below.refl _ _).alloc (Nat.le_refl _) _)).mono ?_
  rintro e w2 ⟨pt, ct, rfl, hown2, hb2⟩
  have HO2 := Lib.hid hown2
  have X2 := Lib.hid ((hb2.block w.heap.size (by simp)).trans (heap_new _ _ _ rfl))
  have HB2 := Lib.hid (((Below.refl w.heap.size w).alloc (Nat.le_refl _) _).trans (hb2.mono (by simp)))
  have hs2 : w.heap.size < w2.heap.size := by have := hb2.size; simp at this; omega
  clear hown2 hb2 htr
  obtain ⟨b0, b1, b2, b3, -, -, -, -⟩ := cells4 X2.out
  go_wp2_with fail
  go_loopw [3, 11] (fun v iv wr => ∃ (k : Nat) (pq : Option Addr) (cq : Nat) (l : List Int), k ≤ n2 ∧ iv = .int .i64 (k : Int) ∧ v = .slice pq l.length cq ∧ Hid (wr.ownsRow w.heap.size 3 1 (.slice pq l.length cq) l.length (l.map (.int .i64))) ∧ Hid (l = lpB x n1 m2 y2 k) ∧ Hid (Below w.heap.size w wr)) (fun _ iv _ => n2 - (intOf iv).toNat)
  case atStart => exact ⟨0, pt, ct, nzL x n1, by omega, rfl, rfl, ownsN_base HO2.out (by simp), rfl, HB2.out⟩
  case round =>
    obtain ⟨k, pq, cq, l, hk, rfl, rfl, HOW, HL, HB⟩ := hrel
    by_cases hkn : k < n2
    · obtain ⟨rfl, -, hg⟩ := HF.out.1 (by omega)
      obtain ⟨hrd, sa, sc, se⟩ := HR.out k hkn
      obtain ⟨u0, u1, u2⟩ := atChute HF.out hkn HB.out (Nat.le_refl _)
      rw [se] at u2 hrd
      obtain ⟨p5, c5, g5, o5, e5, hc5, hf5⟩ := hrd
      injection e5 with e51 _ e53
      subst e53
      have hsrc : ∀ (W : World), Below w.heap.size w W → ∀ (i : Nat) (u : Value), ((List.range (m2 k)).map (fun j => Value.int .i64 (y2 k j)))[i]? = some u → W.cell? (sa.add i) = some u := fun W hW i u hu => by
        have hi2 : i < m2 k := by
          rcases Nat.lt_or_ge i (m2 k) with h9 | h9
          · exact h9
          · rw [List.getElem?_eq_none (by simp; omega)] at hu; cases hu
        rw [List.getElem?_map, List.getElem?_range hi2] at hu
        simp at hu
        subst hu
        have h7 := hf5.1 (by omega)
        rw [← e51] at h7
        obtain ⟨h7, -, h8⟩ := h7
        injection h7 with h7
        subst h7
        rw [Go.WideShapes.add_plain]
        exact (hW.cell (p := ⟨g5, o5 + i, none⟩) h8).trans (hf5.2 i hi2)
      have HSRC := Lib.hid hsrc
      have HLEN := Lib.hid (show ((List.range (m2 k)).map (fun j => Value.int .i64 (y2 k j))).length = m2 k * 1 by simp)
      have HONE : Hid (∀ u ∈ (List.range (m2 k)).map (fun j => Value.int .i64 (y2 k j)), u.oneCell' = true) := by
        intro u hu
        obtain ⟨j, -, rfl⟩ := List.mem_map.1 hu
        rfl
      have HXL := Lib.hid (show (l ++ (List.range (m2 k)).map (y2 k)).map (Value.int .i64) = l.map (.int .i64) ++ (List.range (m2 k)).map (fun j => Value.int .i64 (y2 k j)) by rw [List.map_append, List.map_map]; rfl)
      have HL2 := Lib.hid (show l ++ (List.range (m2 k)).map (y2 k) = lpB x n1 m2 y2 (k + 1) from by rw [HL.out]; rfl)
      have HLL := Lib.hid (show (l ++ (List.range (m2 k)).map (y2 k)).length = l.length + m2 k by simp)
      have hll : l.length ≤ 1048576 := by rw [HL.out]; exact hlb.out k hk
      have hm5 := hmb.out k hkn
      obtain ⟨news, hnews⟩ : ∃ news, news = (List.range (m2 k)).map (fun j => Value.int .i64 (y2 k j)) := ⟨_, rfl⟩
      obtain ⟨nl, hnl⟩ : ∃ nl, nl = l ++ (List.range (m2 k)).map (y2 k) := ⟨_, rfl⟩
      rw [← hnews] at HSRC HLEN HONE HXL
      rw [← hnl] at HXL HL2 HLL
      obtain ⟨m, hmm⟩ : ∃ m, m = m2 k := ⟨_, rfl⟩
      rw [← hmm] at u2 HLEN HLL hm5
      obtain ⟨v0, hv0⟩ : ∃ v, v = a2 (k * 3) := ⟨_, rfl⟩
      obtain ⟨v1, hv1⟩ : ∃ v, v = a2 (k * 3 + 1) := ⟨_, rfl⟩
      rw [← hv0] at u0
      rw [← hv1] at u1
      have hk0 : (0 : Int) ≤ (k : Int) := by omega
      have hkl : (k : Int) < (n2 : Int) := by omega
      have hwk : IntKind.i64.wrap ((k : Int) + 1) = (k : Int) + 1 := IntWalk.i64_in _ (by omega)
      have hszw := HB.out.size
      clear hf5 hsrc hnews hnl hmm hv0 hv1 e51 se HL
      go_wp2_with (at_builtin; refine wpList_append_own _ rfl _ _ 22 rfl w.heap.size 3 i0 (.int .i64 0) 1 8 Try.underlying22 hi hz0 hz1 hz2 rfl (by decide) _ l.length _ rfl (HOW.out.alloc _) sa m sc news rfl HLEN.out (HSRC.out _ (HB.out.alloc hszw _)) HONE.out (by unfold maxLen; omega) (by omega) (by simp; omega) ?_; intro v' w3 hown3 hgrow3 hnil3)
      go_roundw
      case rel =>
        obtain ⟨pz, cz, rfl⟩ : ∃ pz cz, v' = .slice pz (l.length + m) cz := by
          rcases hown3.2 with ⟨rfl, h0⟩ | ⟨gz, cz, _, rfl, -⟩
          · exact ⟨none, 0, by rw [h0]⟩
          · exact ⟨_, _, rfl⟩
        refine ⟨k + 1, pz, cz, nl, by omega, by congr 1, by rw [HLL.out], by rw [HXL.out, HLL.out]; exact hown3, HL2.out, ?_⟩
        exact Below.grown (HB.out.alloc hszw _) hgrow3 (by simp; omega) (fun j hj => (HOW.out.lt j hj).1)
      case measure => simp only [intOf]; omega
    · obtain rfl : k = n2 := by omega
      go_wp2_with fail
      go_ret
      refine ⟨pq, cq, ?_, ?_, HB.out⟩
      · rw [← HL.out]; rfl
      · rw [← HL.out]; exact HOW.out

end Go.Proofs.Ytokhkcebdbopcab
