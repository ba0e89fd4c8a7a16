/- What Backlog returns, the program's and the model's. -/
import Derived.Test.YtobcgidakbbhpabSBeltOk
import Derived.Test.YtobcgidakbbhpabBeltOkI
import Derived.Test.YtobcgidakbbhpabStepS
namespace Go.Proofs.Ytobcgidakbbhpab
open Go.RowKit

noncomputable def blB (L G : Int) (n : Nat) (z : Nat → Int) : Int := if okB L G n z = true then (n : Int) - (mvd L G z n : Nat) else -1
theorem mvd_iff {L G : Int} {z : Nat → Int} (k : Nat) : stZ L G z (k * 3 + 1) = z (k * 3 + 1) ↔ ¬ z (k * 3 + 1) < lim L G (stZ L G z) k := by
  rw [stZ_front, stF_eq]
  unfold adv
  split <;> omega

set_option maxRecDepth 100000 in
set_option maxHeartbeats 4000000 in
theorem sBacklog_any (n : Nat) (hn : n ≤ maxLen) (z : Nat → Int) (p : Option Addr) (c g o : Nat) (L G : Int) (H : Bool) (w : World) (h : FlatAt w 0 w.heap.size p g o (n * 3) (fun j => .int .i64 (z j))) :
    Calls Try.prog 42 #[.agg #[.int .i64 L, .int .i64 G, .bool H, .slice p n c]] w fun e w' => e = .returned (.int .i64 (blB L G n z)) ∧ Below w.heap.size w w' := by
  have hbo := Lib.hid (fun W (hb : Below w.heap.size w W) => sBeltOk_any n hn z p c g o L G H W ((h.below hb (Nat.le_refl _)).wide (Nat.zero_le _) hb.size))
  have HF := Lib.hid h
  have c3 := cellsItemS
  clear h
  unfold blB
  rcases Bool.eq_false_or_eq_true (okB L G n z) with hk | hk
  · have HP : Hid (OkP L G n z) := okB_iff.1 hk
    simp only [hk] at hbo
    rw [if_pos hk]
    have hn40 : n ≤ 40 := HP.out.2.2.1
    clear hk
    have hst := Lib.hid (fun W (hW : Below w.heap.size w W) => sStep_any n z p c g o L G H W HP.out ((HF.out.below hW (Nat.le_refl _)).wide (Nat.zero_le _) hW.size))
    go_enter Try.func42, Try.ntmps42
    go_wp2_with (first
      | (go_at_call 25; refine (hbo.out _ (by repeat (first | exact Below.refl _ _ | refine Below.alloc ?_ (by simp <;> omega) _ | refine Below.setCell ?_ (by simp <;> omega) _ | refine Below.drew ?_))).mono ?_; rintro e w2 ⟨rfl, hb2⟩; have hw2 := below_via hb2 (B := w.heap.size) (w := w) (by repeat (first | exact Below.refl _ _ | refine Below.alloc ?_ (by simp <;> omega) _ | refine Below.setCell ?_ (by simp <;> omega) _ | refine Below.drew ?_)) (by simp <;> omega); have hx2 := (hb2.block w.heap.size (by simp <;> omega)).trans (heap_new _ _ _ rfl); obtain ⟨x0, x1, x2, x3, -, -, -, -⟩ := cells4 hx2; have hz2 : w.heap.size + 1 ≤ w2.heap.size := (by have := hb2.size; simpa using this); have HX2 := Lib.hid hx2; have HW2 := Lib.hid hw2; clear hx2 hb2 hw2)
      | (go_at_call 77; refine (hst.out _ HW2.out).mono ?_; rintro e w3 ⟨p', c', rfl, hcc, hrn, hb3⟩; have hw3 : Below w.heap.size w w3 := HW2.out.trans (hb3.mono (by omega)); have hx3 := (hb3.block w.heap.size (by omega)).trans HX2.out; obtain ⟨y0, y1, y2, y3, -, -, -, -⟩ := cells4 hx3; have hz3 := hb3.size; have HX3 := Lib.hid hx3; have HW3 := Lib.hid hw3; have HRN := Lib.hid hrn; clear hx3 hw3 hrn hb3 x0 x1 x2 x3))
    obtain ⟨g', o', r1, r2⟩ := HRN.out.row
    have R1 := Lib.hid r1
    clear r1 r2
    have hb4 : (w3.alloc (.cells #[.int .i64 L, .int .i64 G, .bool H, .slice p' n c'] 28)).heap[w3.heap.size]? = some (.cells #[.int .i64 L, .int .i64 G, .bool H, .slice p' n c'] 28 (0, 0)) := heap_new _ _ _ rfl
    obtain ⟨w4, hw4⟩ : ∃ w4, w4 = w3.alloc (.cells #[.int .i64 L, .int .i64 G, .bool H, .slice p' n c'] 28) := ⟨_, rfl⟩
    have b34 : Below w3.heap.size w3 w4 := by rw [hw4]; exact (Below.refl _ _).alloc (Nat.le_refl _) _
    have s34 : w3.heap.size < w4.heap.size := by rw [hw4]; simp
    rw [← hw4] at hb4 ⊢
    have HB4 := Lib.hid hb4
    have HA4 : Hid (w4.heap[w.heap.size]? = some (.cells #[.int .i64 L, .int .i64 G, .bool H, .slice p n c] 28 (0, 0))) := (b34.block _ (by omega)).trans HX3.out
    have HW4 : Hid (Below w.heap.size w w4) := HW3.out.trans (b34.mono (by omega))
    have R4 : Hid (FlatAt w4 w2.heap.size w3.heap.size p' g' o' (n * 3) (fun j => .int .i64 (stZ L G z j))) := R1.out.below b34 (Nat.le_refl _)
    clear hb4 hw4 y0 y1 y2 y3
    go_loopw [4, 5] (fun m v wr => ∃ k : Nat, k ≤ n ∧ v = .int .i64 (k : Int) ∧ m = .int .i64 ((k : Int) - (mvd L G z k : Nat)) ∧ Below w4.heap.size w4 wr) (fun _ v _ => n - (intOf v).toNat)
    case atStart => exact ⟨0, by omega, rfl, rfl, Below.refl _ _⟩
    case round =>
      obtain ⟨k, hk, rfl, rfl, h1⟩ := hrel
      obtain ⟨x0, x1, x2, x3, -, -, -, -⟩ := cells4 ((h1.block _ (by omega)).trans HA4.out)
      obtain ⟨y0, y1, y2, y3, -, -, -, -⟩ := cells4 ((h1.block _ (by omega)).trans HB4.out)
      have hmv := mvd_le L G z k
      obtain ⟨q, hq⟩ : ∃ q : Nat, q = mvd L G z k := ⟨_, rfl⟩
      rw [← hq] at hmv ⊢
      by_cases hkn : k < n
      · obtain ⟨rfl, -, hg⟩ := HF.out.1 (by omega)
        obtain ⟨rfl, hlo, hg'⟩ := R4.out.1 (by omega)
        obtain ⟨a0, a1, a2⟩ := HF.out.at3 (HW4.out.trans (h1.mono (by have := HW4.out.size; omega))) (Nat.le_refl _) k (by omega)
        obtain ⟨d0, d1, d2⟩ := R4.out.at3 h1 (by omega) k (by omega)
        have hk0 : (0 : Int) ≤ (k : Int) := by omega
        have hkl : (k : Int) < (n : Int) := by omega
        have hmi := mvd_iff (L := L) (G := G) (z := z) k
        have hms : mvd L G z (k + 1) = q + if z (k * 3 + 1) < lim L G (stZ L G z) k then 1 else 0 := by rw [hq]; rfl
        have hcond : (z (k * 3 + 1) < lim L G (stZ L G z) k) ↔ ¬ stZ L G z (k * 3 + 1) = z (k * 3 + 1) := ⟨fun a b => hmi.1 b a, fun a => Classical.byContradiction fun b => a (hmi.2 b)⟩
        simp only [hcond] at hms
        obtain ⟨t1, ht1⟩ : ∃ x, x = z (k * 3 + 1) := ⟨_, rfl⟩
        obtain ⟨r1, hr1⟩ : ∃ x, x = stZ L G z (k * 3 + 1) := ⟨_, rfl⟩
        rw [← ht1] at a1 hms
        rw [← hr1] at d1 hms
        have H1 := Lib.hid h1
        clear h1 ht1 hr1 hmi hcond hq a0 a2 d0 d2
        by_cases he : r1 = t1
        · subst he
          rw [if_neg (by simp)] at hms
          have HMS := Lib.hid hms
          clear hms
          go_wp2_with fail
          go_quiet (fail)
          go_wp2_with fail
          go_roundw
          case rel => exact ⟨k + 1, by omega, by congr 1, by rw [HMS.out]; congr 1; omega, below_drewN' H1.out _⟩
          case measure => simp only [intOf]; omega
        · rw [if_pos he] at hms
          have HMS := Lib.hid hms
          have hd : (r1 == t1) = false := by simpa using he
          clear hms he
          go_wp2_with fail
          go_quiet (fail)
          go_wp2_with fail
          go_roundw
          case rel => exact ⟨k + 1, by omega, by congr 1, by rw [HMS.out]; congr 1; omega, below_drewN' H1.out _⟩
          case measure => simp only [intOf]; omega
      · obtain rfl : k = n := by omega
        have H1 := Lib.hid h1
        have HQ := Lib.hid hq
        clear h1 hq
        go_wp2_with fail
        go_ret
        exact ⟨congrArg (fun q : Nat => Ending.returned (Value.int .i64 ((k : Int) - (q : Int)))) HQ.out, HW4.out.trans (H1.out.mono (by have := HW4.out.size; omega))⟩
  · simp only [hk] at hbo
    rw [if_neg (by rw [hk]; decide)]
    clear hk
    go_enter Try.func42, Try.ntmps42
    go_wp2_with (go_at_call 25; refine (hbo.out _ (by repeat (first | exact Below.refl _ _ | refine Below.alloc ?_ (by simp <;> omega) _ | refine Below.setCell ?_ (by simp <;> omega) _ | refine Below.drew ?_))).mono ?_; rintro e w2 ⟨rfl, hb2⟩; have hw2 := below_via hb2 (B := w.heap.size) (w := w) (by repeat (first | exact Below.refl _ _ | refine Below.alloc ?_ (by simp <;> omega) _ | refine Below.setCell ?_ (by simp <;> omega) _ | refine Below.drew ?_)) (by simp <;> omega); have hx2 := (hb2.block w.heap.size (by simp <;> omega)).trans (heap_new _ _ _ rfl); obtain ⟨x0, x1, x2, x3, -, -, -, -⟩ := cells4 hx2; have hz2 : w.heap.size + 1 ≤ w2.heap.size := (by have := hb2.size; simpa using this); have HX2 := Lib.hid hx2; have HW2 := Lib.hid hw2; clear hx2 hb2 hw2)
    go_ret
    exact ⟨rfl, HW2.out⟩

set_option maxRecDepth 100000 in
set_option maxHeartbeats 4000000 in
theorem iBacklog_any (n : Nat) (hn : n ≤ 1048576) (z : Nat → Int) (p : Option Addr) (c g o : Nat) (L G : Int) (H : Bool) (w : World) (h : FlatAt w 0 w.heap.size p g o (n * 3) (fun j => .int .i64 (z j))) (hc : n ≤ c) :
    Calls Try.prog 41 #[.agg #[.int .i64 L, .int .i64 G, .bool H, .slice p n c]] w fun e w' => e = .returned (.int .i64 (blB L G n z)) ∧ Below w.heap.size w w' := by
  have hbo := Lib.hid (fun W (hb : Below w.heap.size w W) => iBeltOk_any n (by unfold maxLen; omega) z p c g o L G H W ((h.below hb (Nat.le_refl _)).wide (Nat.zero_le _) hb.size) hc)
  have HF := Lib.hid h
  have c3 := cellsItemI
  clear h
  unfold blB
  rcases Bool.eq_false_or_eq_true (okB L G n z) with hk | hk
  · have HP : Hid (OkP L G n z) := okB_iff.1 hk
    simp only [hk] at hbo
    rw [if_pos hk]
    have hn40 : n ≤ 40 := HP.out.2.2.1
    have hmv := mvd_le L G z n
    clear hk
    have hwo := Lib.hid (fun W (hb : Below w.heap.size w W) => workOn_any n hn z p c g o L G H W ((HF.out.below hb (Nat.le_refl _)).wide (Nat.zero_le _) hb.size))
    have hst := Lib.hid (fun (W : World) (gw : Nat) (p' : Option Addr) (c' B : Nat) (h1 : WB W gw L G H (.slice p' n c')) (h2 : ItemsOwn W B p' n c' z) (h3 : (Value.slice p' n c').ownBlock ≠ some gw) => (by
      obtain ⟨g', f1, f2⟩ := h2.flat
      exact (step_touch n z p' c' g' 0 B W.heap.size L G H gw W HP.out h1 f1 f2 (Nat.le_refl _) (fun h0 e => by
        obtain ⟨e1, -, -⟩ := f1.1 (by omega)
        rw [e1, e] at h3
        exact h3 rfl)).mono (fun e w' h => (⟨h.1, h.2.2.2.2⟩ : e = .returned (.int .i64 (mvd L G z n : Nat)) ∧ Touch B W.heap.size W w'))))
    obtain ⟨q, hq⟩ : ∃ q : Nat, q = mvd L G z n := ⟨_, rfl⟩
    rw [← hq] at hst hmv ⊢
    clear hq
    go_enter Try.func41, Try.ntmps41
    go_wp2_with (go_at_call 28; refine (hbo.out _ (by repeat (first | exact Below.refl _ _ | refine Below.alloc ?_ (by simp <;> omega) _ | refine Below.setCell ?_ (by simp <;> omega) _ | refine Below.drew ?_))).mono ?_; rintro e w2 ⟨rfl, hb2⟩; have hw2 := below_via hb2 (B := w.heap.size) (w := w) (by repeat (first | exact Below.refl _ _ | refine Below.alloc ?_ (by simp <;> omega) _ | refine Below.setCell ?_ (by simp <;> omega) _ | refine Below.drew ?_)) (by simp <;> omega); have hx2 := (hb2.block w.heap.size (by simp <;> omega)).trans (heap_new _ _ _ rfl); obtain ⟨x0, x1, x2, x3, -, -, -, -⟩ := cells4 hx2; have hz2 : w.heap.size + 1 ≤ w2.heap.size := (by have := hb2.size; simpa using this); have HX2 := Lib.hid hx2; have HW2 := Lib.hid hw2; clear hx2 hb2 hw2)
    have hwrap : IntKind.i64.wrap ((n : Int) - (q : Int)) = (n : Int) - (q : Int) := IntWalk.i64_in _ (by omega)
    go_region_with (first
      | (go_at_call 79; refine (hwo.out _ (by first | exact HW2.out | exact HW2.out.drew)).mono ?_; rintro e w3 ⟨gw, p', c', rfl, hcc, hgw, hwb, hown, hne, hb3⟩; have hx3 := (hb3.block w.heap.size (by first | omega | (simp; omega) | simp)).trans HX2.out; obtain ⟨y0, y1, y2, y3, -, -, -, -⟩ := cells4 hx3; obtain ⟨B, hB, hB3, hown⟩ : ∃ B, w.heap.size + 1 ≤ B ∧ B ≤ w3.heap.size ∧ ItemsOwn w3 B p' n c' z := ⟨_, (by first | omega | (simp; omega) | simp), (by have := hb3.size; first | exact this | simpa using this), hown⟩)
      | (go_at_call 98; refine (hst.out _ gw p' c' B (by first | exact hwb | exact hwb.keep rfl) (by first | exact hown | exact hown.below ((Below.refl _ _).drew)) hne).mono ?_; rintro e w4 ⟨rfl, ht4⟩; have hx4 := (ht4.block w.heap.size (by have := hb3.size; first | omega | (simp at this; simp; omega)) (.inl (by omega))).trans hx3; obtain ⟨u0, u1, u2, u3, -, -, -, -⟩ := cells4 hx4))
    all_goals
      clear hwrap
      have h23 : Below w.heap.size w w3 := below_via hb3 (by first | exact HW2.out | exact HW2.out.drew) (by first | omega | (simp; omega) | simp)
      have h24 : Below w.heap.size w w4 := by first | exact h23.trans (ht4.below (by omega) h23.size) | exact h23.drew.trans (ht4.below (by omega) h23.size)
      go_wp2_with fail
      go_ret
      exact ⟨rfl, h24⟩
  · simp only [hk] at hbo
    rw [if_neg (by rw [hk]; decide)]
    clear hk
    go_enter Try.func41, Try.ntmps41
    go_wp2_with (go_at_call 28; refine (hbo.out _ (by repeat (first | exact Below.refl _ _ | refine Below.alloc ?_ (by simp <;> omega) _ | refine Below.setCell ?_ (by simp <;> omega) _ | refine Below.drew ?_))).mono ?_; rintro e w2 ⟨rfl, hb2⟩; have hw2 := below_via hb2 (B := w.heap.size) (w := w) (by repeat (first | exact Below.refl _ _ | refine Below.alloc ?_ (by simp <;> omega) _ | refine Below.setCell ?_ (by simp <;> omega) _ | refine Below.drew ?_)) (by simp <;> omega); have hx2 := (hb2.block w.heap.size (by simp <;> omega)).trans (heap_new _ _ _ rfl); obtain ⟨x0, x1, x2, x3, -, -, -, -⟩ := cells4 hx2; have hz2 : w.heap.size + 1 ≤ w2.heap.size := (by have := hb2.size; simpa using this); have HX2 := Lib.hid hx2; have HW2 := Lib.hid hw2; clear hx2 hb2 hw2)
    go_ret
    exact ⟨rfl, HW2.out⟩

end Go.Proofs.Ytobcgidakbbhpab
