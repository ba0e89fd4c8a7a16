/- The laws' own functions over stores: size, copy, comparison of equal ones. -/
import Derived.Test.YtokhkcebdbopcaaLaneLaw
namespace Go.Proofs.Ytokhkcebdbopcaa
open Go.RowKit
set_option linter.unusedVariables false

theorem szStore_any (n : Nat) (p : Option Addr) (c : Nat) (l : Nat) (hl : l ≤ 1099511627776) (hn : n ≤ maxLen) (nn : Nat → Nat) (hm : ∀ i, i < n → nn i ≤ maxLen) (xx : Nat → Nat → Int) (D : Int) (w : World) (h : LRd w (.slice p n c) n nn xx) :
    Calls Try.prog 15 #[.agg #[.int .i64 D, .slice p n c], .int .i64 (l : Int)] w fun e w' => e = .returned (.int .i64 (if n + tot nn n ≤ l then ((l - (n + tot nn n) : Nat) : Int) else -1)) ∧ Below w.heap.size w w' := by
  have hc := Lib.hid (fun W (hW : Below w.heap.size w W) => szKeptSS_v n p c l hl hn nn hm xx W (h.later hW))
  clear h
  by_cases h : n + tot nn n ≤ l
  · simp only [if_pos h] at hc
    rw [if_pos h]
    have h2 : ¬ (((l - (n + tot nn n) : Nat) : Int) < 0) := by omega
    go_enter Try.func15, Try.ntmps15
    go_wp2_with (go_at_call 48; refine (hc.out _ (by repeat (first | exact Below.refl _ _ | refine Below.alloc ?_ (by simp <;> omega) _ | refine Below.setCell ?_ (by simp <;> omega) _ | refine Below.drew ?_))).mono ?_; rintro e w2 ⟨rfl, rfl⟩)
    go_ret
    refine ⟨rfl, ?_⟩
    repeat (first | exact Below.refl _ _ | refine Below.alloc ?_ (by simp <;> omega) _ | refine Below.setCell ?_ (by simp <;> omega) _ | refine Below.drew ?_)
  · simp only [if_neg h] at hc
    rw [if_neg h]
    go_enter Try.func15, Try.ntmps15
    go_wp2_with (go_at_call 48; refine (hc.out _ (by repeat (first | exact Below.refl _ _ | refine Below.alloc ?_ (by simp <;> omega) _ | refine Below.setCell ?_ (by simp <;> omega) _ | refine Below.drew ?_))).mono ?_; rintro e w2 ⟨rfl, rfl⟩)
    go_ret
    refine ⟨rfl, ?_⟩
    repeat (first | exact Below.refl _ _ | refine Below.alloc ?_ (by simp <;> omega) _ | refine Below.setCell ?_ (by simp <;> omega) _ | refine Below.drew ?_)

set_option maxRecDepth 100000 in
set_option maxHeartbeats 1000000 in
theorem toStore_any (n : Nat) (hn : n ≤ 1048576) (p : Option Addr) (c : Nat) (nn : Nat → Nat) (hm : ∀ i, i < n → nn i ≤ 1048576) (xx : Nat → Nat → Int) (D : Int) (w : World) (h : LRd w (.slice p n c) n nn xx) :
    Calls Try.prog 17 #[.agg #[.int .i64 D, .slice p n c]] w fun e w' => ∃ p' c', e = .returned (.agg #[.int .i64 D, .slice p' n c']) ∧ LOwn w' w.heap.size w'.heap.size (.slice p' n c') n nn xx ∧ Below w.heap.size w w' := by
  have H0 := Lib.hid h
  clear h
  go_enter Try.func17, Try.ntmps17
  have hT := Lib.hid (fun W (hb : Below w.heap.size w W) => toKeptSS_v n hn p c nn hm xx W (H0.out.later hb))
  go_wp2_with fail
  refine (hT.out _ (by repeat (first | exact Below.refl _ _ | refine Below.alloc ?_ (by simp <;> omega) _ | refine Below.setCell ?_ (by simp <;> omega) _ | refine Below.drew ?_))).mono ?_
  rintro e w2 ⟨p', c', rfl, how, hb2⟩
  obtain ⟨hc2, hf2⟩ := bcell hb2
  have hz2 := hb2.size
  have HO := Lib.hid how
  have HB2 := Lib.hid hb2
  simp at hz2
  clear how hb2
  go_wp2
  refine bodyPost_ret (v := .agg #[.int .i64 D, .slice p' n c']) (by simp [results, Try.results17, go_sem, hc2]) rfl ⟨p', c', rfl, ?_, ?_⟩
  · have hlo : w.heap.size + 1 + 1 + 1 ≤ w2.heap.size := by omega
    have h1 := HO.out.wide (show w.heap.size + 1 + 1 + 1 ≤ _ by simp) (Nat.le_refl _)
    refine LOwn.wide (h1.keep ?_) (by omega) (by simp [World.setCell])
    intro k hk1 hk2
    repeat (first | rfl | refine (Below.heap_setCell _ _ _ k (by simp <;> omega)).trans ?_)
  · have hb := HB2.out
    repeat (first | exact below_via hb (by repeat (first | exact Below.refl _ _ | refine Below.alloc ?_ (by simp <;> omega) _ | refine Below.setCell ?_ (by simp <;> omega) _ | refine Below.drew ?_)) (by simp <;> omega) | refine Below.setCell ?_ (by simp <;> omega) _)

set_option maxRecDepth 100000 in
set_option maxHeartbeats 1000000 in
theorem eqStore_any (n : Nat) (hn : n ≤ 1048576) (pa pb : Option Addr) (ca cb : Nat) (nn : Nat → Nat) (hm : ∀ i, i < n → nn i ≤ 1048576) (xx : Nat → Nat → Int) (D : Int) (w : World) (ha : LRd w (.slice pa n ca) n nn xx) (hb : LRd w (.slice pb n cb) n nn xx) :
    Calls Try.prog 19 #[.agg #[.int .i64 D, .slice pa n ca], .agg #[.int .i64 D, .slice pb n cb]] w fun e w' => e = .returned (.bool true) ∧ Below w.heap.size w w' := by
  have hT := Lib.hid (fun W (hw : Below w.heap.size w W) => eqKeptSS_v n hn pa pb ca cb nn hm xx W (ha.later hw) (hb.later hw))
  clear ha hb
  go_enter Try.func19, Try.ntmps19
  go_wp2_with fail
  refine (hT.out _ (by repeat (first | exact Below.refl _ _ | refine Below.alloc ?_ (by simp <;> omega) _ | refine Below.setCell ?_ (by simp <;> omega) _ | refine Below.drew ?_))).mono ?_
  rintro e w2 ⟨rfl, hb2⟩
  have HB2 := Lib.hid hb2
  clear hb2
  go_wp2
  go_ret
  refine ⟨rfl, below_via HB2.out ?_ ?_⟩
  · repeat (first | exact Below.refl _ _ | refine Below.alloc ?_ (by simp <;> omega) _ | refine Below.setCell ?_ (by simp <;> omega) _ | refine Below.drew ?_)
  · simp <;> omega

end Go.Proofs.Ytokhkcebdbopcaa
