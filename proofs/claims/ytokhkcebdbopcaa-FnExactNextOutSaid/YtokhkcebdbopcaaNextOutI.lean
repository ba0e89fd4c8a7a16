/- What the program's NextOut returns. -/
import Derived.Test.YtokhkcebdbopcaaStoreOkI
import Derived.Test.YtokhkcebdbopcaaConcat
import Derived.Test.YtokhkcebdbopcaaFirstKept
namespace Go.Proofs.Ytokhkcebdbopcaa
open Go.RowKit
set_option linter.unusedVariables false

theorem allL_time {nn : Nat → Nat} {xx : Nat → Nat → Int} : ∀ n, (∀ i, i < n → tmOk (xx i) (nn i)) → ∀ j, j < totL nn n → (allL nn xx n).getD (j * 2 + 1) 0 ≤ 100000
  | 0, _, j, hj => absurd hj (by show ¬ (j < 0); omega)
  | n + 1, h, j, hj => by
    have hlen := allL_len nn xx n
    have hj2 : j < totL nn n + nn n := hj
    show (allL nn xx n ++ (List.range (nn n * 2)).map (xx n)).getD (j * 2 + 1) 0 ≤ 100000
    by_cases hjn : j < totL nn n
    · rw [List.getD_eq_getElem?_getD, List.getElem?_append_left (by omega), ← List.getD_eq_getElem?_getD]
      exact allL_time n (fun i hi => h i (by omega)) j hjn
    · obtain ⟨d, rfl⟩ : ∃ d, j = totL nn n + d := ⟨j - totL nn n, by omega⟩
      rw [List.getD_eq_getElem?_getD, List.getElem?_append_right (by omega), hlen, show (totL nn n + d) * 2 + 1 - totL nn n * 2 = d * 2 + 1 by omega, List.getElem?_map, List.getElem?_range (by omega)]
      exact (h n (by omega) d (by omega)).2

set_option maxRecDepth 100000 in
set_option maxHeartbeats 4000000 in
theorem iNextOut_any (D : Int) (n : Nat) (hn : n ≤ maxLen) (p : Option Addr) (c : Nat) (nn : Nat → Nat) (hm : ∀ i, i < n → nn i ≤ maxLen) (xx : Nat → Nat → Int) (w : World) (h : LRs w (.slice p n c) n nn xx) (hwf : ∀ i, i < n → ∀ j, j < nn i * 2 → (Lit.int .i64 (xx i j)).wf = true) :
    Calls Try.prog 34 #[.agg #[.int .i64 D, .slice p n c]] w fun e w' => e = .returned (.int .i64 (nxB D n nn xx)) ∧ Below w.heap.size w w' := by
  have ck := cellsKeptF
  have hok := Lib.hid (fun W (hW : Below w.heap.size w W) => iStoreOk_any D n hn p c nn hm xx W (h.rd.later hW) hwf)
  obtain ⟨R, hR⟩ : ∃ R, R = nxB D n nn xx := ⟨_, rfl⟩
  rw [← hR]
  by_cases hst : stO D n nn xx
  rotate_left
  · simp only [decide_eq_false hst] at hok
    obtain rfl : R = 0 := by rw [hR]; exact if_neg hst
    clear hR hst h hwf
    go_enter Try.func34, Try.ntmps34
    go_wp2_with (go_at_call 18; refine (hok.out _ (by repeat (first | exact Below.refl _ _ | refine Below.alloc ?_ (by simp <;> omega) _ | refine Below.drew ?_))).mono ?_; rintro e w2 ⟨rfl, hb2⟩; have HB2 := Lib.hid (below_via hb2 (B := w.heap.size) (w := w) (by repeat (first | exact Below.refl _ _ | refine Below.alloc ?_ (by simp <;> omega) _ | refine Below.drew ?_)) (by simp)); clear hb2)
    go_ret
    exact ⟨rfl, HB2.out⟩
  have hR0 : R = (nxL nn xx n).2 := by rw [hR]; exact if_pos hst
  have hn4 : n ≤ 4 := hst.2.1.2
  have hm5 : ∀ i, i < n → nn i ≤ 5 := fun i hi => by have := (hst.2.2.1 i hi).1; have := hst.1.2; omega
  have htm := allL_time (nn := nn) (xx := xx) n (fun i hi => (hst.2.2.1 i hi).2)
  simp only [decide_eq_true hst] at hok
  have hcat := Lib.hid (fun W (hW : Below w.heap.size w W) => iConcat_any n (by omega) p c nn (fun i hi => by have := hm5 i hi; omega) xx W (h.later hW))
  have hnx := nx_all nn xx n
  have hlen := allL_len nn xx n
  have htl : totL nn n ≤ 1048576 := by
    have : ∀ k, k ≤ n → totL nn k ≤ k * 5 := by
      intro k
      induction k with
      | zero => intro _; exact Nat.le_refl _
      | succ k ih => intro hk; have := ih (by omega); have := hm5 k (by omega); show totL nn k + nn k ≤ _; omega
    have := this n (Nat.le_refl _)
    omega
  obtain ⟨l, hl⟩ : ∃ l, l = allL nn xx n := ⟨_, rfl⟩
  obtain ⟨q, hq⟩ : ∃ q, q = totL nn n := ⟨_, rfl⟩
  rw [← hl, ← hq] at hcat hlen
  rw [← hl] at htm hnx
  rw [← hq] at htm hnx htl
  obtain ⟨z, hz⟩ : ∃ z : Nat → Int, z = fun j => l.getD j 0 := ⟨_, rfl⟩
  have htm2 : ∀ j, j < q → z (j * 2 + 1) ≤ 100000 := fun j hj => by rw [hz]; exact htm j hj
  have hflat : ∀ (W : World) (B : Nat) (pv : Option Addr) (cv : Nat), W.ownsRow B 49 2 (.slice pv q cv) q (l.map (.int .i64)) → ∃ g, FlatAt W 0 W.heap.size pv g 0 (q * 2) (fun j => .int .i64 (z j)) := by
    intro W B pv cv ho
    obtain ⟨g, h1, -⟩ := FlatAt.of_own (f := fun j => .int .i64 (z j)) ho (fun j hj => by
      rw [hz, List.getElem?_map, List.getElem?_eq_getElem (show j < l.length by omega)]
      show some _ = some (Value.int .i64 (l.getD j 0))
      rw [List.getD_eq_getElem?_getD, List.getElem?_eq_getElem (show j < l.length by omega)]; rfl)
    exact ⟨g, h1.wide (Nat.zero_le _) (Nat.le_refl _)⟩
  have hres : ∀ b t : Int, FkIs z q b t → b = R := by
    intro b t hF
    rw [hR0, ← hnx]
    have e : nxR (100001, 0) z q = nxR (100001, 0) (fun j => l.getD j 0) q := by rw [hz]
    rcases Nat.eq_zero_or_pos q with h0 | h0
    · rw [(hF.1 h0).1, h0]; rfl
    · rw [← e, ← hF.2 h0]
  have HFL := Lib.hid hflat
  have HRES := Lib.hid hres
  have HTM := Lib.hid htm2
  have HFK := Lib.hid (fun W pv cv g (hf : FlatAt W 0 W.heap.size pv g 0 (q * 2) (fun j => .int .i64 (z j))) => iFirstKept_any q htl z HTM.out pv cv g 0 W hf)
  clear hflat hres htm htm2 hz hl hq hlen hnx hR0 hR hst h hwf hm5 hm
  go_enter Try.func34, Try.ntmps34
  go_wp2_with (first
    | (go_at_call 18; refine (hok.out _ (by repeat (first | exact Below.refl _ _ | refine Below.alloc ?_ (by simp <;> omega) _ | refine Below.drew ?_))).mono ?_; rintro e w2 ⟨rfl, hb2⟩; have HB2 := Lib.hid (below_via hb2 (B := w.heap.size) (w := w) (by repeat (first | exact Below.refl _ _ | refine Below.alloc ?_ (by simp <;> omega) _ | refine Below.drew ?_)) (by simp)); have X2 := (hb2.block w.heap.size (by simp)).trans (heap_new _ _ _ rfl); obtain ⟨b0, b1, -, -⟩ := cellsK2 X2; clear hb2 X2)
    | (go_at_call 71; refine (hcat.out _ HB2.out).mono ?_; rintro e w3 ⟨pv, cv, rfl, how, hb3⟩; have HB3 := Lib.hid (HB2.out.trans (hb3.mono HB2.out.size)); obtain ⟨gv, hfv⟩ := HFL.out _ _ _ _ how; have HFV := Lib.hid hfv; clear how hb3 hfv)
    | (go_at_call 70; refine (HFK.out _ _ cv _ HFV.out).mono ?_; rintro e w4 ⟨⟨b, t, rfl, hF⟩, hb4⟩; obtain rfl := HRES.out b t hF; have HB4 := Lib.hid (HB3.out.trans (hb4.mono HB3.out.size)); clear hF hb4))
  go_ret
  exact ⟨rfl, HB4.out.alloc (by have := HB4.out.size; omega) _⟩

end Go.Proofs.Ytokhkcebdbopcaa
