/- What the program's LaneFor returns. -/
import Derived.Test.YtokhkcebdbopcaaOpensFor
import Derived.Test.YtokhkcebdbopcaaStoreOkI
namespace Go.Proofs.Ytokhkcebdbopcaa
open Go.RowKit
set_option linter.unusedVariables false

theorem cellsB5 {w : World} {k : Nat} {a b : Value} {t : TypeId} (h : w.heap[k]? = some (.cells #[a, b] t (0, 0))) :
    w.cell? ⟨k, 0, none⟩ = some a ∧ w.cell? ⟨k, 1, none⟩ = some b ∧ w.frozen? ⟨k, 0, none⟩ = false ∧ w.frozen? ⟨k, 1, none⟩ = false :=
  ⟨by simp [World.cell?, h], by simp [World.cell?, h], by simp [World.frozen?, h], by simp [World.frozen?, h]⟩

set_option maxRecDepth 100000 in
set_option maxHeartbeats 4000000 in
theorem iLaneFor_any (D : Int) (n : Nat) (hn : n ≤ maxLen) (p : Option Addr) (c : Nat) (nn : Nat → Nat) (hm : ∀ i, i < n → nn i ≤ maxLen) (xx : Nat → Nat → Int) (t but : Int) (w : World) (h : LRd w (.slice p n c) n nn xx) (hwf : ∀ i, i < n → ∀ j, j < nn i * 2 → (Lit.int .i64 (xx i j)).wf = true) :
    Calls Try.prog 21 #[.agg #[.int .i64 D, .slice p n c], .int .i64 t, .int .i64 but] w fun e w' => e = .returned (.int .i64 (lfr D n nn xx t but)) ∧ Below w.heap.size w w' := by
  have co := cellsOpenF
  have hok := Lib.hid (fun W (hW : Below w.heap.size w W) => iStoreOk_any D n hn p c nn hm xx W (h.later hW) hwf)
  obtain ⟨R, hR⟩ : ∃ R, R = lfr D n nn xx t but := ⟨_, rfl⟩
  rw [← hR]
  by_cases hst : stO D n nn xx
  rotate_left
  · simp only [decide_eq_false hst] at hok
    obtain rfl : R = -1 := by rw [hR]; exact if_neg (fun h => hst h.1)
    clear hR hst h hwf
    go_enter Try.func21, Try.ntmps21
    go_wp2_with (go_at_call 18; refine (hok.out _ (by repeat (first | exact Below.refl _ _ | refine Below.alloc ?_ (by simp <;> omega) _ | refine Below.drew ?_))).mono ?_; rintro e w2 ⟨rfl, hb2⟩; have HB2 := Lib.hid (below_via hb2 (B := w.heap.size) (w := w) (by repeat (first | exact Below.refl _ _ | refine Below.alloc ?_ (by simp <;> omega) _ | refine Below.drew ?_)) (by simp)); clear hb2)
    go_ret
    exact ⟨rfl, HB2.out⟩
  simp only [decide_eq_true hst] at hok
  by_cases ht : 0 ≤ t ∧ t ≤ 100000
  rotate_left
  · obtain rfl : R = -1 := by rw [hR]; exact if_neg (fun h => ht h.2)
    have HI := Lib.hid (inB_no.2 ht)
    clear hR hst h hwf ht
    go_enter Try.func21, Try.ntmps21
    go_wp2_with (first
      | (go_at_call 18; refine (hok.out _ (by repeat (first | exact Below.refl _ _ | refine Below.alloc ?_ (by simp <;> omega) _ | refine Below.drew ?_))).mono ?_; rintro e w2 ⟨rfl, hb2⟩; have HB2 := Lib.hid (below_via hb2 (B := w.heap.size) (w := w) (by repeat (first | exact Below.refl _ _ | refine Below.alloc ?_ (by simp <;> omega) _ | refine Below.drew ?_)) (by simp)); clear hb2)
      | (go_at_call 52; refine (within_at HI.out _).mono ?_; rintro e w4 ⟨rfl, rfl⟩))
    go_ret
    exact ⟨rfl, HB2.out⟩
  have HI := Lib.hid (inB_iff.2 ht)
  have hR0 : R = fb (can D nn but) (lkey nn xx t) n := by rw [hR]; exact if_pos ⟨hst, ht⟩
  have hn4 : n ≤ 4 := hst.2.1.2
  have hm5 : ∀ i, i < n → nn i ≤ 5 := fun i hi => by have := (hst.2.2.1 i hi).1; have := hst.1.2; omega
  have htm : ∀ i, i < n → tmOk (xx i) (nn i) := fun i hi => (hst.2.2.1 i hi).2
  have hops := Lib.hid (fun W (hW : Below w.heap.size w W) => iOpensFor_any D n hn4 p c nn hm5 xx htm t but W (h.later hW))
  have hff := fo_fb (D := D) (t := t) (but := but) n htm
  have hlen := oTo_len D nn xx t but n
  have hqn := oCo_le D nn but n
  obtain ⟨hf1, hf2⟩ := hff
  rw [← hR0] at hf1
  rw [← hR0] at hf2
  obtain ⟨l, hl⟩ : ∃ l, l = oTo D nn xx t but n := ⟨_, rfl⟩
  obtain ⟨q, hq⟩ : ∃ q, q = oCo D nn but n := ⟨_, rfl⟩
  rw [← hl, ← hq] at hops hlen hf2
  rw [← hq] at hqn hf1
  obtain ⟨z, hz⟩ : ∃ z : Nat → Int, z = fun j => l.getD j 0 := ⟨_, rfl⟩
  have hflat : ∀ (W : World) (B : Nat) (pv : Option Addr) (cv : Nat), W.ownsRow B 66 3 (.slice pv q cv) q (l.map (.int .i64)) → ∃ g, FlatAt W 0 W.heap.size pv g 0 (q * 3) (fun j => .int .i64 (z j)) := by
    intro W B pv cv ho
    obtain ⟨g, h1, -⟩ := FlatAt.of_own (f := fun j => .int .i64 (z j)) ho (fun j hj => by
      rw [hz, List.getElem?_map, List.getElem?_eq_getElem (show j < l.length by omega)]
      show some _ = some (Value.int .i64 (l.getD j 0))
      rw [List.getD_eq_getElem?_getD, List.getElem?_eq_getElem (show j < l.length by omega)]; rfl)
    exact ⟨g, h1.wide (Nat.zero_le _) (Nat.le_refl _)⟩
  have hres : 0 < q → ∀ a b c : Int, FoIs z q a b c → a = R := by
    intro h0 a b c hF
    obtain ⟨i, -, h2, h3⟩ := hf2 h0
    rw [(hF.2 h0).1, (h3 z (fun j _ => by rw [hz])).1, h2]
  have HFL := Lib.hid hflat
  have HRES := Lib.hid hres
  have HFK := Lib.hid (fun W pv cv g (hf : FlatAt W 0 W.heap.size pv g 0 (q * 3) (fun j => .int .i64 (z j))) => iFirstOpen_any q (by omega) z pv cv g 0 W hf)
  by_cases h0 : q = 0
  · obtain rfl : R = -1 := hf1 h0
    rw [show decide (0 < q) = false from decide_eq_false (by omega)] at HFK
    clear hflat hres hz hl hq hlen hR0 hR hst h hwf hm5 hm hf1 hf2 HRES h0 htm ht
    go_enter Try.func21, Try.ntmps21
    go_wp2_with (first | (go_at_call 18; refine (hok.out _ (by repeat (first | exact Below.refl _ _ | refine Below.alloc ?_ (by simp <;> omega) _ | refine Below.drew ?_))).mono ?_; rintro e w2 ⟨rfl, hb2⟩; have HB2 := Lib.hid (below_via hb2 (B := w.heap.size) (w := w) (by repeat (first | exact Below.refl _ _ | refine Below.alloc ?_ (by simp <;> omega) _ | refine Below.drew ?_)) (by simp)); have X2 := (hb2.block w.heap.size (by simp)).trans (heap_new _ _ _ rfl); obtain ⟨b0, b1, -, -⟩ := cellsB5 X2; clear hb2 X2) | (go_at_call 52; refine (within_at HI.out _).mono ?_; rintro e w4 ⟨rfl, rfl⟩) | (go_at_call 57; refine (hops.out _ HB2.out).mono ?_; rintro e w3 ⟨pv, cv, rfl, how, hb3⟩; have HB3 := Lib.hid (HB2.out.trans (hb3.mono HB2.out.size)); obtain ⟨gv, hfv⟩ := HFL.out _ _ _ _ how; have HFV := Lib.hid hfv; clear how hb3 hfv) | (go_at_call 56; refine (HFK.out _ _ cv _ HFV.out).mono ?_; rintro e w5 ⟨⟨a0, a1, a2, rfl, hF⟩, hb5⟩; have HB5 := Lib.hid (HB3.out.trans (hb5.mono HB3.out.size)); clear hF hb5))
    go_ret
    exact ⟨rfl, HB5.out.alloc (by have := HB5.out.size; omega) _⟩
  · rw [show decide (0 < q) = true from decide_eq_true (by omega)] at HFK
    have HRE := Lib.hid (HRES.out (by omega))
    clear hflat hres hz hl hq hlen hR0 hR hst h hwf hm5 hm hf1 hf2 HRES h0 htm ht
    go_enter Try.func21, Try.ntmps21
    go_wp2_with (first | (go_at_call 18; refine (hok.out _ (by repeat (first | exact Below.refl _ _ | refine Below.alloc ?_ (by simp <;> omega) _ | refine Below.drew ?_))).mono ?_; rintro e w2 ⟨rfl, hb2⟩; have HB2 := Lib.hid (below_via hb2 (B := w.heap.size) (w := w) (by repeat (first | exact Below.refl _ _ | refine Below.alloc ?_ (by simp <;> omega) _ | refine Below.drew ?_)) (by simp)); have X2 := (hb2.block w.heap.size (by simp)).trans (heap_new _ _ _ rfl); obtain ⟨b0, b1, -, -⟩ := cellsB5 X2; clear hb2 X2) | (go_at_call 52; refine (within_at HI.out _).mono ?_; rintro e w4 ⟨rfl, rfl⟩) | (go_at_call 57; refine (hops.out _ HB2.out).mono ?_; rintro e w3 ⟨pv, cv, rfl, how, hb3⟩; have HB3 := Lib.hid (HB2.out.trans (hb3.mono HB2.out.size)); obtain ⟨gv, hfv⟩ := HFL.out _ _ _ _ how; have HFV := Lib.hid hfv; clear how hb3 hfv) | (go_at_call 56; refine (HFK.out _ _ cv _ HFV.out).mono ?_; rintro e w5 ⟨⟨a0, a1, a2, rfl, hF⟩, hb5⟩; obtain rfl := HRE.out _ _ _ hF; have HB5 := Lib.hid (HB3.out.trans (hb5.mono HB3.out.size)); clear hF hb5))
    go_ret
    exact ⟨rfl, HB5.out.alloc (by have := HB5.out.size; omega) _⟩

end Go.Proofs.Ytokhkcebdbopcaa
