/- The laws' own functions over loops: size, copy, comparison of equal ones. -/
import Derived.Test.YtokhkcebdbopcabNestChute
import Derived.Test.YtokhkcebdbopcabNestWant
namespace Go.Proofs.Ytokhkcebdbopcab
open Go.RowKit
set_option linter.unusedVariables false

set_option maxRecDepth 100000 in
set_option maxHeartbeats 1000000 in
theorem szLoop_any (T : Int) (p1 p2 p3 : Option Addr) (c1 c2 c3 n1 n2 n3 : Nat) (l : Nat) (hl : l ≤ 1099511627776) (h1 : n1 ≤ maxLen) (h2 : n2 ≤ maxLen) (h3 : n3 ≤ maxLen) (x : Nat → Int) (a2 a3 : Nat → Int) (m2 m3 : Nat → Nat) (y2 y3 : Nat → Nat → Int)
    (hm2 : ∀ i, i < n2 → m2 i ≤ maxLen) (hm3 : ∀ i, i < n3 → m3 i ≤ maxLen) (w : World) (r1 : Rd w (.slice p1 n1 c1) n1 n1 x) (r2 : NRd w (.slice p2 n2 c2) n2 2 a2 m2 y2) (r3 : NRd w (.slice p3 n3 c3) n3 1 a3 m3 y3) :
    Calls Try.prog 15 #[.agg #[.slice p1 n1 c1, .int .i64 T, .slice p2 n2 c2, .slice p3 n3 c3], .int .i64 (l : Int)] w fun e w' => e = .returned (.int .i64 (if n1 + (n2 + totN m2 n2) + (n3 + totN m3 n3) ≤ l then ((l - (n1 + (n2 + totN m2 n2) + (n3 + totN m3 n3)) : Nat) : Int) else -1)) ∧ Below w.heap.size w w' := by
  obtain ⟨R, hR⟩ : ∃ R : Int, R = if n1 + (n2 + totN m2 n2) + (n3 + totN m3 n3) ≤ l then ((l - (n1 + (n2 + totN m2 n2) + (n3 + totN m3 n3)) : Nat) : Int) else -1 := ⟨_, rfl⟩
  rw [← hR]
  have HRR := Lib.hid hR
  obtain ⟨t2, ht2⟩ : ∃ t, t = n2 + totN m2 n2 := ⟨_, rfl⟩
  obtain ⟨t3, ht3⟩ : ∃ t, t = n3 + totN m3 n3 := ⟨_, rfl⟩
  rw [← ht2, ← ht3] at HRR
  have q1 := Lib.hid (fun W (hW : Below w.heap.size w W) => szIntS_s n1 (.slice p1 n1 c1) l hl h1 n1 x W (r1.later hW))
  have q2 := Lib.hid (fun W (hW : Below w.heap.size w W) (l : Nat) (hl : l ≤ 1099511627776) => szChuteS_v n2 p2 c2 l hl h2 a2 m2 hm2 y2 W (r2.later hW))
  have q3 := Lib.hid (fun W (hW : Below w.heap.size w W) (l : Nat) (hl : l ≤ 1099511627776) => szWantS_v n3 p3 c3 l hl h3 a3 m3 hm3 y3 W (r3.later hW))
  rw [← ht2] at q2
  rw [← ht3] at q3
  clear hR ht2 ht3 r1 r2 r3 h1 h2 h3 hm2 hm3
  have hX := heap_new w (.cells #[.slice p1 n1 c1, .int .i64 T, .slice p2 n2 c2, .slice p3 n3 c3] 26) _ rfl
  have hA : Below w.heap.size w (w.alloc (.cells #[.slice p1 n1 c1, .int .i64 T, .slice p2 n2 c2, .slice p3 n3 c3] 26)) := (Below.refl _ _).alloc (Nat.le_refl _) _
  have HX := Lib.hid hX
  have HA := Lib.hid hA
  clear hX hA
  have hlt : ∀ W : World, Below (w.heap.size + 1) (w.alloc (.cells #[.slice p1 n1 c1, .int .i64 T, .slice p2 n2 c2, .slice p3 n3 c3] 26)) W → Hid (Below w.heap.size w W ∧ W.heap[w.heap.size]? = some (.cells #[.slice p1 n1 c1, .int .i64 T, .slice p2 n2 c2, .slice p3 n3 c3] 26 (0, 0))) := fun W hW => ⟨HA.out.trans (hW.mono (by omega)), (hW.block w.heap.size (by omega)).trans HX.out⟩
  have HL := Lib.hid hlt
  clear hlt
  by_cases b1 : n1 ≤ l
  rotate_left
  · obtain rfl : R = -1 := by rw [HRR.out, if_neg (by omega)]
    simp only [if_neg b1] at q1
    go_enter Try.func15, Try.ntmps15
    go_wp2_with (go_at_call 50; refine (q1.out _ HA.out).mono ?_; rintro e w2 ⟨rfl, rfl⟩)
    go_ret
    exact ⟨rfl, HA.out⟩
  simp only [if_pos b1] at q1
  have d1 : decide (((l - n1 : Nat) : Int) < 0) = false := decide_eq_false (by omega)
  obtain ⟨l1, hl1⟩ : ∃ l1, l1 = l - n1 := ⟨_, rfl⟩
  rw [← hl1] at q1 d1
  have q2' := Lib.hid (fun W hW => q2.out W hW l1 (by omega))
  by_cases b2 : t2 ≤ l1
  rotate_left
  · obtain rfl : R = -1 := by rw [HRR.out, if_neg (by omega)]
    simp only [if_neg b2] at q2'
    clear hl1 HRR
    go_enter Try.func15, Try.ntmps15
    go_wp2_with (first
      | (go_at_call 50; refine (q1.out _ HA.out).mono ?_; rintro e w2 ⟨rfl, rfl⟩)
      | (go_at_call 51; refine (q2'.out _ HA.out).mono ?_; rintro e w3 ⟨rfl, hb3⟩; have H3 := HL.out _ (hb3.mono (by simp)); clear hb3))
    go_ret
    exact ⟨rfl, H3.out.1⟩
  simp only [if_pos b2] at q2'
  have d2 : decide (((l1 - t2 : Nat) : Int) < 0) = false := decide_eq_false (by omega)
  obtain ⟨l2, hl2⟩ : ∃ l2, l2 = l1 - t2 := ⟨_, rfl⟩
  rw [← hl2] at q2' d2
  have q3' := Lib.hid (fun W hW => q3.out W hW l2 (by omega))
  by_cases b3 : t3 ≤ l2
  rotate_left
  · obtain rfl : R = -1 := by rw [HRR.out, if_neg (by omega)]
    simp only [if_neg b3] at q3'
    clear hl1 hl2 HRR
    go_enter Try.func15, Try.ntmps15
    go_wp2_with (first
      | (go_at_call 50; refine (q1.out _ HA.out).mono ?_; rintro e w2 ⟨rfl, rfl⟩)
      | (go_at_call 51; refine (q2'.out _ HA.out).mono ?_; rintro e w3 ⟨rfl, hb3⟩; have H3 := HL.out _ (hb3.mono (by simp)); have hs3 := hb3.size; clear hb3; obtain ⟨y0, y1, y2, y3, -, -, -, -⟩ := cells4 H3.out.2)
      | (go_at_call 52; refine (q3'.out _ H3.out.1).mono ?_; rintro e w4 ⟨rfl, hb4⟩))
    go_ret
    exact ⟨rfl, H3.out.1.trans (hb4.mono H3.out.1.size)⟩
  simp only [if_pos b3] at q3'
  have d3 : decide (((l2 - t3 : Nat) : Int) < 0) = false := decide_eq_false (by omega)
  obtain rfl : R = ((l2 - t3 : Nat) : Int) := by rw [HRR.out, if_pos (by omega)]; congr 1; omega
  clear hl1 hl2 HRR
  go_enter Try.func15, Try.ntmps15
  go_wp2_with (first
    | (go_at_call 50; refine (q1.out _ HA.out).mono ?_; rintro e w2 ⟨rfl, rfl⟩)
    | (go_at_call 51; refine (q2'.out _ HA.out).mono ?_; rintro e w3 ⟨rfl, hb3⟩; have H3 := HL.out _ (hb3.mono (by simp)); have hs3 := hb3.size; clear hb3; obtain ⟨y0, y1, y2, y3, -, -, -, -⟩ := cells4 H3.out.2)
    | (go_at_call 52; refine (q3'.out _ H3.out.1).mono ?_; rintro e w4 ⟨rfl, hb4⟩))
  go_ret
  exact ⟨rfl, H3.out.1.trans (hb4.mono H3.out.1.size)⟩

/-- A loop that a call made: its trays, its chutes, its wants. -/
def LpOwn (w : World) (lo hi : Nat) (p1 p2 p3 : Option Addr) (c1 c2 c3 n1 n2 n3 : Nat) (x a2 a3 : Nat → Int) (m2 m3 : Nat → Nat) (y2 y3 : Nat → Nat → Int) : Prop :=
  Own w lo hi (.slice p1 n1 c1) n1 n1 x ∧ (∃ q, p1 = some q) ∧ NOwn w lo hi (.slice p2 n2 c2) n2 2 a2 m2 y2 ∧ NOwn w lo hi (.slice p3 n3 c3) n3 1 a3 m3 y3
/-- A loop that is read; none of its slices of numbers is nil. -/
def LpRs (w : World) (p1 p2 p3 : Option Addr) (c1 c2 c3 n1 n2 n3 : Nat) (x a2 a3 : Nat → Int) (m2 m3 : Nat → Nat) (y2 y3 : Nat → Nat → Int) : Prop :=
  Rd w (.slice p1 n1 c1) n1 n1 x ∧ (∃ q, p1 = some q) ∧ NRs w (.slice p2 n2 c2) n2 2 a2 m2 y2 ∧ NRs w (.slice p3 n3 c3) n3 1 a3 m3 y3
section
variable {w w' : World} {lo hi B : Nat} {p1 p2 p3 : Option Addr} {c1 c2 c3 n1 n2 n3 : Nat} {x a2 a3 : Nat → Int} {m2 m3 : Nat → Nat} {y2 y3 : Nat → Nat → Int}
theorem LpOwn.rds (h : LpOwn w lo hi p1 p2 p3 c1 c2 c3 n1 n2 n3 x a2 a3 m2 m3 y2 y3) (hh : hi ≤ w.heap.size) : LpRs w p1 p2 p3 c1 c2 c3 n1 n2 n3 x a2 a3 m2 m3 y2 y3 := ⟨h.1.rd hh, h.2.1, h.2.2.1.rds hh, h.2.2.2.rds hh⟩
theorem LpOwn.below (h : LpOwn w lo hi p1 p2 p3 c1 c2 c3 n1 n2 n3 x a2 a3 m2 m3 y2 y3) (hb : Below B w w') (hB : hi ≤ B) : LpOwn w' lo hi p1 p2 p3 c1 c2 c3 n1 n2 n3 x a2 a3 m2 m3 y2 y3 := ⟨h.1.below hb hB, h.2.1, h.2.2.1.below hb hB, h.2.2.2.below hb hB⟩
theorem LpOwn.wide {lo' hi' : Nat} (h : LpOwn w lo hi p1 p2 p3 c1 c2 c3 n1 n2 n3 x a2 a3 m2 m3 y2 y3) (h1 : lo' ≤ lo) (h2 : hi ≤ hi') : LpOwn w lo' hi' p1 p2 p3 c1 c2 c3 n1 n2 n3 x a2 a3 m2 m3 y2 y3 := ⟨h.1.wide h1 h2, h.2.1, h.2.2.1.wide h1 h2, h.2.2.2.wide h1 h2⟩
theorem LpRs.later (h : LpRs w p1 p2 p3 c1 c2 c3 n1 n2 n3 x a2 a3 m2 m3 y2 y3) (hb : Below w.heap.size w w') : LpRs w' p1 p2 p3 c1 c2 c3 n1 n2 n3 x a2 a3 m2 m3 y2 y3 := ⟨h.1.later hb, h.2.1, h.2.2.1.later hb, h.2.2.2.later hb⟩
end

set_option maxRecDepth 100000 in
set_option maxHeartbeats 2000000 in
theorem toLoop_any (T : Int) (p1 p2 p3 : Option Addr) (c1 c2 c3 n1 n2 n3 : Nat) (h1 : n1 ≤ 1048576) (h2 : n2 ≤ 1048576) (h3 : n3 ≤ 1048576) (x : Nat → Int) (a2 a3 : Nat → Int) (m2 m3 : Nat → Nat) (y2 y3 : Nat → Nat → Int)
    (hm2 : ∀ i, i < n2 → m2 i ≤ 1048576) (hm3 : ∀ i, i < n3 → m3 i ≤ 1048576) (w : World) (r1 : Rd w (.slice p1 n1 c1) n1 n1 x) (r2 : NRd w (.slice p2 n2 c2) n2 2 a2 m2 y2) (r3 : NRd w (.slice p3 n3 c3) n3 1 a3 m3 y3) :
    Calls Try.prog 17 #[.agg #[.slice p1 n1 c1, .int .i64 T, .slice p2 n2 c2, .slice p3 n3 c3]] w fun e w' => ∃ q1 q2 q3 d1 d2 d3, e = .returned (.agg #[.slice q1 n1 d1, .int .i64 T, .slice q2 n2 d2, .slice q3 n3 d3]) ∧ LpOwn w' w.heap.size w'.heap.size q1 q2 q3 d1 d2 d3 n1 n2 n3 x a2 a3 m2 m3 y2 y3 ∧ Below w.heap.size w w' := by
  have k1 := Lib.hid (fun W (hW : Below w.heap.size w W) => toIntS_s n1 h1 x (.slice p1 n1 c1) W (r1.later hW))
  have k2 := Lib.hid (fun W (hW : Below w.heap.size w W) => toChuteS_v n2 h2 p2 c2 a2 m2 hm2 y2 W (r2.later hW))
  have k3 := Lib.hid (fun W (hW : Below w.heap.size w W) => toWantS_v n3 h3 p3 c3 a3 m3 hm3 y3 W (r3.later hW))
  clear r1 r2 r3 hm2 hm3
  obtain ⟨w1, hw1⟩ : ∃ w1, w1 = ((w.alloc (.cells #[.slice p1 n1 c1, .int .i64 T, .slice p2 n2 c2, .slice p3 n3 c3] 26)).alloc (.cells #[.slice none 0 0, .int .i64 0, .slice none 0 0, .slice none 0 0] 32)).alloc (.cells #[.slice none 0 0, .int .i64 0, .slice none 0 0, .slice none 0 0] 32) := ⟨_, rfl⟩
  have hs1 : w1.heap.size = w.heap.size + 3 := by rw [hw1]; simp
  have hX : w1.heap[w.heap.size]? = some (.cells #[.slice p1 n1 c1, .int .i64 T, .slice p2 n2 c2, .slice p3 n3 c3] 26 (0, 0)) := by rw [hw1]; exact (heap_old _ _ _ (by simp <;> omega)).trans ((heap_old _ _ _ (by simp)).trans (heap_new _ _ _ rfl))
  have hY : w1.heap[w.heap.size + 1]? = some (.cells #[.slice none 0 0, .int .i64 0, .slice none 0 0, .slice none 0 0] 32 (0, 0)) := by rw [hw1]; exact (heap_old _ _ _ (by simp)).trans (heap_new _ _ _ (by simp))
  have hZ : w1.heap[w.heap.size + 2]? = some (.cells #[.slice none 0 0, .int .i64 0, .slice none 0 0, .slice none 0 0] 32 (0, 0)) := by rw [hw1]; exact heap_new _ _ _ (by simp)
  have hb1 : Below w.heap.size w w1 := by rw [hw1]; exact (((Below.refl _ _).alloc (Nat.le_refl _) _).alloc (by simp) _).alloc (by simp; omega) _
  have HW1 := Lib.hid hw1
  have HX := Lib.hid hX
  have HY := Lib.hid hY
  have HZ := Lib.hid hZ
  have HB1 := Lib.hid hb1
  clear hw1 hX hY hZ hb1
  go_enter Try.func17, Try.ntmps17
  go_wp2_with fail
  rw [← HW1.out]
  refine (k1.out _ HB1.out).mono ?_
  rintro e w2 ⟨q1, d1, rfl, ho1, hb2⟩
  have HO1 := Lib.hid ho1
  have X2 := Lib.hid ((hb2.block _ (by omega)).trans HX.out)
  have Y2 := Lib.hid ((hb2.block _ (by omega)).trans HY.out)
  have Z2 := Lib.hid ((hb2.block _ (by omega)).trans HZ.out)
  have HB2 := Lib.hid (HB1.out.trans (hb2.mono (by omega)))
  have hs2 : w1.heap.size ≤ w2.heap.size := hb2.size
  clear ho1 hb2 HW1 HX HY HZ k1
  obtain ⟨x0, x1, x2, x3, -, -, -, -⟩ := cells4 X2.out
  obtain ⟨z0, z1, z2, z3, f0, f1, f2, f3⟩ := cells4 Z2.out
  go_wp2_with fail
  obtain ⟨w3, hw3⟩ : ∃ w3, w3 = (w2.setCell ⟨w.heap.size + 2, 0, none⟩ (.slice (some q1) n1 d1)).setCell ⟨w.heap.size + 2, 1, none⟩ (.int .i64 T) := ⟨_, rfl⟩
  have Z3 : Hid (w3.heap[w.heap.size + 2]? = some (.cells #[.slice (some q1) n1 d1, .int .i64 T, .slice none 0 0, .slice none 0 0] 32 (0, 0))) := by rw [hw3]; exact blk_set (blk_set Z2.out _) _
  have hk3 : ∀ k, k ≠ w.heap.size + 2 → w3.heap[k]? = w2.heap[k]? := fun k hk => by rw [hw3]; exact (Below.heap_setCell _ _ _ _ (fun e => hk e)).trans (Below.heap_setCell _ _ _ _ (fun e => hk e))
  have hs3 : w3.heap.size = w2.heap.size := by rw [hw3]; simp [World.setCell]
  have hB3 : Below w.heap.size w w3 := by rw [hw3]; exact (HB2.out.setCell (by show w.heap.size ≤ w.heap.size + 2; omega) _).setCell (by show w.heap.size ≤ w.heap.size + 2; omega) _
  have HW3 := Lib.hid hw3
  have X3 := Lib.hid ((hk3 w.heap.size (by omega)).trans X2.out)
  have Y3 := Lib.hid ((hk3 (w.heap.size + 1) (by omega)).trans Y2.out)
  have T23 : Touch (w.heap.size + 2) (w.heap.size + 3) w2 w3 := ⟨by rw [hw3]; rfl, by rw [hw3]; rfl, by rw [hw3]; rfl, by omega, fun k _ hk2 => hk3 k (by omega)⟩
  have HO3 := Lib.hid (HO1.out.touch T23 (Nat.le_refl _) (.inr (by omega)))
  have HB3 := Lib.hid hB3
  clear hw3 hk3 hB3 T23 HO1 X2 Y2 Z2 HB2 x0 x1 x2 x3 z0 z1 z2 z3 f0 f1 f2 f3
  rw [← HW3.out]
  refine (k2.out _ HB3.out).mono ?_
  rintro e w4 ⟨q2, d2, rfl, ho2, hb4⟩
  have HP4 := Lib.hid ho2
  have X4 := Lib.hid ((hb4.block _ (by omega)).trans X3.out)
  have Y4 := Lib.hid ((hb4.block _ (by omega)).trans Y3.out)
  have Z4 := Lib.hid ((hb4.block _ (by omega)).trans Z3.out)
  have HO4 := Lib.hid (HO3.out.below hb4 (by omega))
  have HB4 := Lib.hid (HB3.out.trans (hb4.mono (by omega)))
  have hs4 : w3.heap.size ≤ w4.heap.size := hb4.size
  clear ho2 hb4 HW3 X3 Y3 Z3 HO3 HB3 k2
  obtain ⟨x0, x1, x2, x3, -, -, -, -⟩ := cells4 X4.out
  obtain ⟨z0, z1, z2, z3, f0, f1, f2, f3⟩ := cells4 Z4.out
  go_wp2_with fail
  obtain ⟨w5, hw5⟩ : ∃ w5, w5 = w4.setCell ⟨w.heap.size + 2, 2, none⟩ (.slice q2 n2 d2) := ⟨_, rfl⟩
  have Z5 : Hid (w5.heap[w.heap.size + 2]? = some (.cells #[.slice (some q1) n1 d1, .int .i64 T, .slice q2 n2 d2, .slice none 0 0] 32 (0, 0))) := by rw [hw5]; exact blk_set Z4.out _
  have hk5 : ∀ k, k ≠ w.heap.size + 2 → w5.heap[k]? = w4.heap[k]? := fun k hk => by rw [hw5]; exact Below.heap_setCell _ _ _ _ (fun e => hk e)
  have hs5 : w5.heap.size = w4.heap.size := by rw [hw5]; simp [World.setCell]
  have hB5 : Below w.heap.size w w5 := by rw [hw5]; exact HB4.out.setCell (by show w.heap.size ≤ w.heap.size + 2; omega) _
  have HW5 := Lib.hid hw5
  have X5 := Lib.hid ((hk5 w.heap.size (by omega)).trans X4.out)
  have Y5 := Lib.hid ((hk5 (w.heap.size + 1) (by omega)).trans Y4.out)
  have T45 : Touch (w.heap.size + 2) (w.heap.size + 3) w4 w5 := ⟨by rw [hw5]; rfl, by rw [hw5]; rfl, by rw [hw5]; rfl, by omega, fun k _ hk2 => hk5 k (by omega)⟩
  have HO5 := Lib.hid (HO4.out.touch T45 (by omega) (.inr (by omega)))
  have HP5 := Lib.hid (HP4.out.keep (fun k h1 _ => hk5 k (by omega)))
  have HB5 := Lib.hid hB5
  clear hw5 hk5 hB5 T45 HO4 HP4 X4 Y4 Z4 HB4 x0 x1 x2 x3 z0 z1 z2 z3 f0 f1 f2 f3
  rw [← HW5.out]
  refine (k3.out _ HB5.out).mono ?_
  rintro e w6 ⟨q3, d3, rfl, ho3, hb6⟩
  have HQ6 := Lib.hid ho3
  have Y6 := Lib.hid ((hb6.block _ (by omega)).trans Y5.out)
  have Z6 := Lib.hid ((hb6.block _ (by omega)).trans Z5.out)
  have HO6 := Lib.hid (HO5.out.below hb6 (by omega))
  have HP6 := Lib.hid (HP5.out.below hb6 (by omega))
  have HB6 := Lib.hid (HB5.out.trans (hb6.mono (by omega)))
  have hs6 : w5.heap.size ≤ w6.heap.size := hb6.size
  clear ho3 hb6 HW5 X5 Y5 Z5 HO5 HP5 HB5 k3
  obtain ⟨y0, y1, y2, y3, g0, g1, g2, g3⟩ := cells4 Y6.out
  obtain ⟨z0, z1, z2, z3, f0, f1, f2, f3⟩ := cells4 Z6.out
  go_wp2_with fail
  refine bodyPost_ret (v := .agg #[.slice (some q1) n1 d1, .int .i64 T, .slice q2 n2 d2, .slice q3 n3 d3]) (by simp [results, Try.results17, go_sem, y0, y1, y2, y3]) rfl ⟨some q1, q2, q3, d1, d2, d3, rfl, ?_, ?_⟩
  · have hfin : ∀ (W W' : World), W' = ((((W.setCell ⟨w.heap.size + 2, 3, none⟩ (.slice q3 n3 d3)).setCell ⟨w.heap.size + 1, 0, none⟩ (.slice (some q1) n1 d1)).setCell ⟨w.heap.size + 1, 1, none⟩ (.int .i64 T)).setCell ⟨w.heap.size + 1, 2, none⟩ (.slice q2 n2 d2)).setCell ⟨w.heap.size + 1, 3, none⟩ (.slice q3 n3 d3) → (∀ k, w.heap.size + 3 ≤ k → W'.heap[k]? = W.heap[k]?) ∧ W'.heap.size = W.heap.size := fun W W' e => by
      subst e
      have st : ∀ (V : World) (a : Addr) (u : Value) (k : Nat), k ≠ a.block → (V.setCell a u).heap[k]? = V.heap[k]? := fun V a u k h => Below.heap_setCell V a u k h
      refine ⟨fun k hk => ?_, by simp [World.setCell]⟩
      rw [st _ _ _ k (by show k ≠ w.heap.size + 1; omega), st _ _ _ k (by show k ≠ w.heap.size + 1; omega), st _ _ _ k (by show k ≠ w.heap.size + 1; omega), st _ _ _ k (by show k ≠ w.heap.size + 1; omega), st _ _ _ k (by show k ≠ w.heap.size + 2; omega)]
    obtain ⟨hk7, hs7⟩ := hfin w6 _ rfl
    have hT : Touch (w.heap.size + 1) (w.heap.size + 3) w6 (((((w6.setCell ⟨w.heap.size + 2, 3, none⟩ (.slice q3 n3 d3)).setCell ⟨w.heap.size + 1, 0, none⟩ (.slice (some q1) n1 d1)).setCell ⟨w.heap.size + 1, 1, none⟩ (.int .i64 T)).setCell ⟨w.heap.size + 1, 2, none⟩ (.slice q2 n2 d2)).setCell ⟨w.heap.size + 1, 3, none⟩ (.slice q3 n3 d3)) := ⟨rfl, rfl, rfl, by rw [hs7]; exact Nat.le_refl _, fun k _ hk => by
      rcases hk with hk | hk
      · have st : ∀ (V : World) (a : Addr) (u : Value) (k : Nat), k ≠ a.block → (V.setCell a u).heap[k]? = V.heap[k]? := fun V a u k h => Below.heap_setCell V a u k h
        rw [st _ _ _ k (by show k ≠ w.heap.size + 1; omega), st _ _ _ k (by show k ≠ w.heap.size + 1; omega), st _ _ _ k (by show k ≠ w.heap.size + 1; omega), st _ _ _ k (by show k ≠ w.heap.size + 1; omega), st _ _ _ k (by show k ≠ w.heap.size + 2; omega)]
      · exact hk7 k hk⟩
    refine ⟨(HO6.out.touch hT (by omega) (.inr (by omega))).wide (by omega) (by rw [hs7]; omega), ⟨q1, rfl⟩, (HP6.out.keep (fun k h1 _ => hk7 k (by omega))).wide (by omega) (by rw [hs7]; omega), (HQ6.out.keep (fun k h1 _ => hk7 k (by omega))).wide (by omega) (by rw [hs7]; exact Nat.le_refl _)⟩
  · have hb := HB6.out
    repeat (first | exact hb | refine Below.setCell ?_ (by simp <;> omega) _)

set_option maxRecDepth 100000 in
set_option maxHeartbeats 1000000 in
theorem eqLoop_any (T : Int) (p1 p2 p3 s1 s2 s3 : Option Addr) (c1 c2 c3 d1 d2 d3 n1 n2 n3 : Nat) (h1 : n1 ≤ 1048576) (h2 : n2 ≤ 1048576) (h3 : n3 ≤ 1048576) (x : Nat → Int) (a2 a3 : Nat → Int) (m2 m3 : Nat → Nat) (y2 y3 : Nat → Nat → Int)
    (hm2 : ∀ i, i < n2 → m2 i ≤ 1048576) (hm3 : ∀ i, i < n3 → m3 i ≤ 1048576) (w : World) (ra : LpRs w p1 p2 p3 c1 c2 c3 n1 n2 n3 x a2 a3 m2 m3 y2 y3) (rb : LpRs w s1 s2 s3 d1 d2 d3 n1 n2 n3 x a2 a3 m2 m3 y2 y3) :
    Calls Try.prog 19 #[.agg #[.slice p1 n1 c1, .int .i64 T, .slice p2 n2 c2, .slice p3 n3 c3], .agg #[.slice s1 n1 d1, .int .i64 T, .slice s2 n2 d2, .slice s3 n3 d3]] w fun e w' => e = .returned (.bool true) ∧ Below w.heap.size w w' := by
  have k1 := Lib.hid (fun W (hW : Below w.heap.size w W) => eqIntS_v n1 h1 x (.slice p1 n1 c1) (.slice s1 n1 d1) W (ra.1.later hW) (rb.1.later hW))
  have k2 := Lib.hid (fun W (hW : Below w.heap.size w W) => eqChuteS_v n2 h2 p2 s2 c2 d2 a2 m2 hm2 y2 W (ra.2.2.1.rd.later hW) (rb.2.2.1.rd.later hW))
  have k3 := Lib.hid (fun W (hW : Below w.heap.size w W) => eqWantS_v n3 h3 p3 s3 c3 d3 a3 m3 hm3 y3 W (ra.2.2.2.rd.later hW) (rb.2.2.2.rd.later hW))
  clear ra rb hm2 hm3
  obtain ⟨w1, hw1⟩ : ∃ w1, w1 = (w.alloc (.cells #[.slice p1 n1 c1, .int .i64 T, .slice p2 n2 c2, .slice p3 n3 c3] 32)).alloc (.cells #[.slice s1 n1 d1, .int .i64 T, .slice s2 n2 d2, .slice s3 n3 d3] 32) := ⟨_, rfl⟩
  have hs1 : w1.heap.size = w.heap.size + 2 := by rw [hw1]; simp
  have HX : Hid (w1.heap[w.heap.size]? = some (.cells #[.slice p1 n1 c1, .int .i64 T, .slice p2 n2 c2, .slice p3 n3 c3] 32 (0, 0))) := by rw [hw1]; exact (heap_old _ _ _ (by simp)).trans (heap_new _ _ _ rfl)
  have HY : Hid (w1.heap[w.heap.size + 1]? = some (.cells #[.slice s1 n1 d1, .int .i64 T, .slice s2 n2 d2, .slice s3 n3 d3] 32 (0, 0))) := by rw [hw1]; exact heap_new _ _ _ (by simp)
  have HB1 : Hid (Below w.heap.size w w1) := by rw [hw1]; exact ((Below.refl _ _).alloc (Nat.le_refl _) _).alloc (by simp) _
  have HW1 := Lib.hid hw1
  have hT : (T != T) = false := by simp
  clear hw1
  go_enter Try.func19, Try.ntmps19
  go_wp2_with fail
  rw [← HW1.out]
  refine (k1.out _ HB1.out).mono ?_
  rintro e w2 ⟨rfl, hb2⟩
  have X2 := Lib.hid ((hb2.block _ (by omega)).trans HX.out)
  have Y2 := Lib.hid ((hb2.block _ (by omega)).trans HY.out)
  have HB2 := Lib.hid (HB1.out.trans (hb2.mono (by omega)))
  have hs2 : w1.heap.size ≤ w2.heap.size := hb2.size
  clear hb2 HX HY HB1 HW1
  obtain ⟨x0, x1, x2, x3, -, -, -, -⟩ := cells4 X2.out
  obtain ⟨z0, z1, z2, z3, -, -, -, -⟩ := cells4 Y2.out
  go_wp2_with fail
  refine (k2.out _ HB2.out).mono ?_
  rintro e w3 ⟨rfl, hb3⟩
  clear x0 x1 x2 x3 z0 z1 z2 z3
  obtain ⟨x0, x1, x2, x3, -, -, -, -⟩ := cells4 ((hb3.block _ (by omega)).trans X2.out)
  obtain ⟨z0, z1, z2, z3, -, -, -, -⟩ := cells4 ((hb3.block _ (by omega)).trans Y2.out)
  have HB3 := Lib.hid (HB2.out.trans (hb3.mono (by omega)))
  clear hb3
  go_wp2_with fail
  refine (k3.out _ HB3.out).mono ?_
  rintro e w4 ⟨rfl, hb4⟩
  have HB4 := Lib.hid (HB3.out.trans (hb4.mono HB3.out.size))
  clear hb4
  go_wp2_with fail
  go_ret
  exact ⟨rfl, HB4.out⟩

end Go.Proofs.Ytokhkcebdbopcab
