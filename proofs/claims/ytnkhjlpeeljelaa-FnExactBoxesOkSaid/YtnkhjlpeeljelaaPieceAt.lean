/- The piece of a bag: what the program's pieceOf and the model's l07Piece return. -/
import Derived.Test.YtnkhjlpeeljelaaLoadPlain
import Derived.Test.YtnkhjlpeeljelaaRowPiece
import Derived.Deep.LoopGhost
import Derived.OwnWalk
import Derived.IntWalk
import Derived.Shelf.Abstract
namespace Go.Proofs.Ytnkhjlpeeljelaa
open Go.RowKit Go.Shelf
set_option linter.unusedVariables false

/-- Piece k is the first of the bag b among n. -/
def PcAt (z : Nat → Int) (n : Nat) (b : Int) (k : Nat) : Prop := k < n ∧ z (k * 3) = b ∧ ∀ j, j < k → z (j * 3) ≠ b
/-- What a search for it gives: its place, or -1. -/
def PcIx (z : Nat → Int) (n : Nat) (b : Int) (i : Int) : Prop := (∃ k : Nat, i = (k : Int) ∧ PcAt z n b k) ∨ (i = -1 ∧ ∀ j, j < n → z (j * 3) ≠ b)
theorem pcIx_any (z : Nat → Int) (n : Nat) (b : Int) : ∃ i, PcIx z n b i := by
  by_cases h : ∃ k, k < n ∧ z (k * 3) = b
  · obtain ⟨k, hk, hm⟩ := least_of h
    exact ⟨k, .inl ⟨k, rfl, hk.1, hk.2, fun j hj e => hm j hj ⟨by omega, e⟩⟩⟩
  · exact ⟨-1, .inr ⟨rfl, fun j hj e => h ⟨j, hj, e⟩⟩⟩
theorem cells3P {w : World} {k : Nat} {a b c : Value} {t : TypeId} (h : w.heap[k]? = some (.cells #[a, b, c] t (0, 0))) :
    w.cell? ⟨k, 0, none⟩ = some a ∧ w.cell? ⟨k, 1, none⟩ = some b ∧ w.cell? ⟨k, 2, none⟩ = some c ∧ w.frozen? ⟨k, 0, none⟩ = false ∧ w.frozen? ⟨k, 1, none⟩ = false ∧ w.frozen? ⟨k, 2, none⟩ = false :=
  ⟨by simp [World.cell?, h], by simp [World.cell?, h], by simp [World.cell?, h], by simp [World.frozen?, h], by simp [World.frozen?, h], by simp [World.frozen?, h]⟩

theorem pieceEq_at {x0 x1 x2 b : Int} {t : Bool} (ht : (x0 == b) = t) (g : Nat) (W : World) (hb : W.cell? ⟨g, 0, none⟩ = some (.int .i64 b)) (hlt : g < W.heap.size) :
    Calls Try.prog 91 #[.agg #[.int .i64 x0, .int .i64 x1, .int .i64 x2], .pointer (some ⟨g, 0, none⟩)] W fun e w' => e = .returned (.bool t) ∧ Below W.heap.size W w' := by
  have hs : W.heap.size ≠ g := by omega
  cases t
  all_goals
    go_enter Try.func91, Try.ntmps91
    go_wp2_with fail
    go_ret
    exact ⟨rfl, (Below.refl _ _).alloc (Nat.le_refl _) _⟩

set_option maxRecDepth 100000 in
set_option maxHeartbeats 1000000 in
theorem pieceIx_any (n : Nat) (hn : n ≤ maxLen) (z : Nat → Int) (p : Option Addr) (c g o : Nat) (b : Int) (q : Nat) (w : World) (hb : w.cell? ⟨q, 0, none⟩ = some (.int .i64 b)) (hlt : q < w.heap.size) (h : FlatAt w 0 w.heap.size p g o (n * 3) (fun j => .int .i64 (z j))) (i : Int) (hi : PcIx z n b i) :
    Calls Try.prog 90 #[.slice p n c, .func (.func 91) #[] #[.pointer (some ⟨q, 0, none⟩)]] w fun e w' => e = .returned (.int .i64 i) ∧ Below w.heap.size w w' := by
  unfold maxLen at hn
  have eg : ∀ args w, (callFunc 91 args).run Try.prog w = .ok (.enter 91 args) w := enters_of Try.func91 (by kernel_rfl) rfl
  have H := Lib.hid h
  have c3 := cellsPiece
  have HC := Lib.hid hb
  have HI := Lib.hid hi
  clear h hb hi
  go_enter Try.func90, Try.ntmps90
  go_wp2_with fail
  go_loopw [8] (fun v wr => ∃ k : Nat, k ≤ n ∧ v = .int .i64 (k : Int) ∧ Below w.heap.size w wr ∧ Hid (∀ j, j < k → z (j * 3) ≠ b)) (fun v _ => n - (intOf v).toNat)
  case atStart => exact ⟨0, by omega, rfl, Below.refl _ _, fun j hj => absurd hj (by omega)⟩
  case round =>
    obtain ⟨k, hk, rfl, hbw, HN⟩ := hrel
    by_cases hkn : k < n
    · obtain ⟨rfl, -, hg⟩ := H.out.1 (by omega)
      obtain ⟨a0, a1, a2⟩ := H.out.at3 hbw (Nat.le_refl _) k (by omega)
      have hr0 := (hbw.cell (p := ⟨q, 0, none⟩) hlt).trans HC.out
      have hbl : q < wr.heap.size := Nat.lt_of_lt_of_le hlt hbw.size
      have hk0 : (0 : Int) ≤ (k : Int) := by omega
      have hkl : (k : Int) < (n : Int) := by omega
      have hwk : IntKind.i64.wrap ((k : Int) + 1) = (k : Int) + 1 := IntWalk.i64_in _ (by omega)
      by_cases hx : z (k * 3) = b
      · have hc := Lib.hid (pieceEq_at (x0 := z (k * 3)) (x1 := z (k * 3 + 1)) (x2 := z (k * 3 + 2)) (t := true) (by simpa using hx) q wr hr0 hbl)
        have hik : i = (k : Int) := by
          rcases HI.out with ⟨k', e, h1, h2, h3⟩ | ⟨-, h1⟩
          · rw [e]
            rcases Nat.lt_trichotomy k k' with hl | hl | hl
            · exact absurd hx (h3 k hl)
            · rw [hl]
            · exact absurd h2 (HN.out k' hl)
          · exact absurd hx (h1 k hkn)
        have HIK := Lib.hid hik
        clear hx hr0 hik
        go_wp2_with (go_at_fn 91; refine hc.out.mono ?_; rintro e w2 ⟨rfl, hb2⟩)
        go_ret
        exact ⟨by rw [HIK.out]; first | done | rfl, hbw.trans (hb2.mono hbw.size)⟩
      · have hc := Lib.hid (pieceEq_at (x0 := z (k * 3)) (x1 := z (k * 3 + 1)) (x2 := z (k * 3 + 2)) (t := false) (by simpa using hx) q wr hr0 hbl)
        have HX := Lib.hid hx
        clear hx hr0
        go_wp2_with (go_at_fn 91; refine hc.out.mono ?_; rintro e w2 ⟨rfl, hb2⟩)
        go_roundw
        case rel => exact ⟨k + 1, by omega, by congr 1, hbw.trans (hb2.mono hbw.size), fun j hj => by
          by_cases e : j = k
          · subst e; exact HX.out
          · exact HN.out j (by omega)⟩
        case measure => simp only [intOf]; omega
    · obtain rfl : k = n := by omega
      have hik : i = -1 := by
        rcases HI.out with ⟨k', e, h1, h2, h3⟩ | ⟨e, -⟩
        · exact absurd h2 (HN.out k' h1)
        · exact e
      have HIK := Lib.hid hik
      clear hik
      go_wp2_with fail
      go_ret
      exact ⟨by rw [HIK.out]; first | done | rfl, hbw⟩

/-- A struct's result cell, written. -/
theorem set3P {w : World} {k : Nat} {a b c : Value} {t : TypeId} (h : w.heap[k]? = some (.cells #[a, b, c] t (0, 0))) (x y v : Value) :
    (((w.setCell ⟨k, 0, none⟩ x).setCell ⟨k, 1, none⟩ y).setCell ⟨k, 2, none⟩ v).heap[k]? = some (.cells #[x, y, v] t (0, 0)) := by
  rw [blk_set (blk_set (blk_set h x) y) v]; rfl

set_option maxRecDepth 100000 in
set_option maxHeartbeats 1000000 in
theorem iPieceOf_yes (n : Nat) (hn : n ≤ maxLen) (z : Nat → Int) (p : Option Addr) (c g o : Nat) (b : Int) (k : Nat) (hk : PcAt z n b k) (w : World) (h : FlatAt w 0 w.heap.size p g o (n * 3) (fun j => .int .i64 (z j))) :
    Calls Try.prog 85 #[.slice p n c, .int .i64 b] w fun e w' => e = .returned (.tuple #[.agg #[.int .i64 b, .int .i64 (z (k * 3 + 1)), .int .i64 (z (k * 3 + 2))], .bool true]) ∧ Below w.heap.size w w' := by
  have c3 := cellsPiece
  have hkn := hk.1
  unfold maxLen at hn
  obtain ⟨w1, hw1⟩ : ∃ x, x = w.alloc (.cells #[.int .i64 b] 3) := ⟨_, rfl⟩
  have B1 := Lib.hid (show Below w.heap.size w w1 from by rw [hw1]; exact (Below.refl _ _).alloc (Nat.le_refl _) _)
  have hx1 : w1.heap[w.heap.size]? = some (.cells #[.int .i64 b] 3 (0, 0)) := by rw [hw1]; exact heap_new _ _ _ rfl
  have S1 : w1.heap.size = w.heap.size + 1 := by rw [hw1]; simp
  obtain ⟨w2, hw2⟩ : ∃ x, x = w1.alloc (.cells #[.int .i64 0, .int .i64 0, .int .i64 0] 62) := ⟨_, rfl⟩
  have B2 := Lib.hid (show Below w.heap.size w w2 from by rw [hw2]; exact B1.out.alloc B1.out.size _)
  have X2 := Lib.hid (show w2.heap[w.heap.size + 1]? = some (.cells #[.int .i64 0, .int .i64 0, .int .i64 0] 62 (0, 0)) from by rw [hw2]; exact heap_new _ _ _ S1.symm)
  have S2 : w2.heap.size = w.heap.size + 2 := by rw [hw2]; simp [S1]
  have C1 := Lib.hid (show w2.cell? ⟨w.heap.size, 0, none⟩ = some (.int .i64 b) from by
    have : w2.heap[w.heap.size]? = some (.cells #[.int .i64 b] 3 (0, 0)) := by rw [hw2]; exact (heap_old _ _ _ (by omega)).trans hx1
    rw [cell_of_row _ _ _ _ _ _ this]; rfl)
  have hf := Lib.hid (pieceIx_any n (by unfold maxLen; omega) z p c g o b w.heap.size w2 C1.out (by omega) ((h.below B2.out (Nat.le_refl _)).wide (Nat.le_refl _) B2.out.size) (k : Int) (.inl ⟨k, rfl, hk⟩))
  have HF := Lib.hid h
  have HB := Lib.hid hk.2.1
  clear h hk
  obtain ⟨rfl, -, hg⟩ := HF.out.1 (by omega)
  have hk0 : (0 : Int) ≤ (k : Int) := by omega
  have hkl : (k : Int) < (n : Int) := by omega
  have hk1 : ((k : Int) == -1) = false := by simp
  have HW1 := Lib.hid hw1
  have HW2 := Lib.hid hw2
  clear hw1 hw2 hx1
  go_enter Try.func85, Try.ntmps85
  go_wp2_with (go_at_call 90; rw [← HW1.out, ← HW2.out]; refine hf.out.mono ?_; rintro e w3 ⟨rfl, hb3⟩; have b3 : Below w.heap.size w w3 := B2.out.trans (hb3.mono B2.out.size); obtain ⟨a0, a1, a2⟩ := HF.out.at3 b3 (Nat.le_refl _) k (by omega); have x3 := (hb3.block (w.heap.size + 1) (by omega)).trans X2.out; obtain ⟨y0, y1, y2, f0, f1, f2⟩ := cells3P x3)
  obtain ⟨u0, u1, u2, -, -, -⟩ := cells3P (set3P x3 (.int .i64 (z (k * 3))) (.int .i64 (z (k * 3 + 1))) (.int .i64 (z (k * 3 + 2))))
  rw [HB.out] at u0 u1 u2
  refine bodyPost_ret (v := .tuple #[.agg #[.int .i64 b, .int .i64 (z (k * 3 + 1)), .int .i64 (z (k * 3 + 2))], .bool true]) (by simp [results, Try.results85, go_sem, HB.out, u0, u1, u2]) rfl ⟨rfl, ?_⟩
  exact Below.setCell (Below.setCell (Below.setCell b3 (by show w.heap.size ≤ w.heap.size + 1; omega) _) (by show w.heap.size ≤ w.heap.size + 1; omega) _) (by show w.heap.size ≤ w.heap.size + 1; omega) _

set_option maxRecDepth 100000 in
set_option maxHeartbeats 1000000 in
theorem iPieceOf_no (n : Nat) (hn : n ≤ maxLen) (z : Nat → Int) (p : Option Addr) (c g o : Nat) (b : Int) (hk : ∀ j, j < n → z (j * 3) ≠ b) (w : World) (h : FlatAt w 0 w.heap.size p g o (n * 3) (fun j => .int .i64 (z j))) :
    Calls Try.prog 85 #[.slice p n c, .int .i64 b] w fun e w' => e = .returned (.tuple #[.agg #[.int .i64 0, .int .i64 0, .int .i64 0], .bool false]) ∧ Below w.heap.size w w' := by
  have c3 := cellsPiece
  unfold maxLen at hn
  obtain ⟨w1, hw1⟩ : ∃ x, x = w.alloc (.cells #[.int .i64 b] 3) := ⟨_, rfl⟩
  have B1 := Lib.hid (show Below w.heap.size w w1 from by rw [hw1]; exact (Below.refl _ _).alloc (Nat.le_refl _) _)
  have hx1 : w1.heap[w.heap.size]? = some (.cells #[.int .i64 b] 3 (0, 0)) := by rw [hw1]; exact heap_new _ _ _ rfl
  have S1 : w1.heap.size = w.heap.size + 1 := by rw [hw1]; simp
  obtain ⟨w2, hw2⟩ : ∃ x, x = w1.alloc (.cells #[.int .i64 0, .int .i64 0, .int .i64 0] 62) := ⟨_, rfl⟩
  have B2 := Lib.hid (show Below w.heap.size w w2 from by rw [hw2]; exact B1.out.alloc B1.out.size _)
  have X2 := Lib.hid (show w2.heap[w.heap.size + 1]? = some (.cells #[.int .i64 0, .int .i64 0, .int .i64 0] 62 (0, 0)) from by rw [hw2]; exact heap_new _ _ _ S1.symm)
  have S2 : w2.heap.size = w.heap.size + 2 := by rw [hw2]; simp [S1]
  have C1 := Lib.hid (show w2.cell? ⟨w.heap.size, 0, none⟩ = some (.int .i64 b) from by
    have : w2.heap[w.heap.size]? = some (.cells #[.int .i64 b] 3 (0, 0)) := by rw [hw2]; exact (heap_old _ _ _ (by omega)).trans hx1
    rw [cell_of_row _ _ _ _ _ _ this]; rfl)
  have hf := Lib.hid (pieceIx_any n (by unfold maxLen; omega) z p c g o b w.heap.size w2 C1.out (by omega) ((h.below B2.out (Nat.le_refl _)).wide (Nat.le_refl _) B2.out.size) (-1) (.inr ⟨rfl, hk⟩))
  clear h hk
  have HW1 := Lib.hid hw1
  have HW2 := Lib.hid hw2
  clear hw1 hw2 hx1
  go_enter Try.func85, Try.ntmps85
  go_wp2_with (go_at_call 90; rw [← HW1.out, ← HW2.out]; refine hf.out.mono ?_; rintro e w3 ⟨rfl, hb3⟩; have b3 : Below w.heap.size w w3 := B2.out.trans (hb3.mono B2.out.size); have x3 := (hb3.block (w.heap.size + 1) (by omega)).trans X2.out; obtain ⟨y0, y1, y2, f0, f1, f2⟩ := cells3P x3)
  obtain ⟨u0, u1, u2, -, -, -⟩ := cells3P (set3P x3 (.int .i64 0) (.int .i64 0) (.int .i64 0))
  refine bodyPost_ret (v := .tuple #[.agg #[.int .i64 0, .int .i64 0, .int .i64 0], .bool false]) (by simp [results, Try.results85, go_sem, u0, u1, u2]) rfl ⟨rfl, ?_⟩
  exact Below.setCell (Below.setCell (Below.setCell b3 (by show w.heap.size ≤ w.heap.size + 1; omega) _) (by show w.heap.size ≤ w.heap.size + 1; omega) _) (by show w.heap.size ≤ w.heap.size + 1; omega) _

set_option maxRecDepth 100000 in
set_option maxHeartbeats 1000000 in
theorem sPiece_any (n : Nat) (hn : n ≤ maxLen) (z : Nat → Int) (p : Option Addr) (c g o : Nat) (b : Int) (x0 x1 x2 : Int) (hk : (∃ k, PcAt z n b k ∧ x0 = b ∧ x1 = z (k * 3 + 1) ∧ x2 = z (k * 3 + 2)) ∨ ((∀ j, j < n → z (j * 3) ≠ b) ∧ x0 = 0 ∧ x1 = 0 ∧ x2 = 0)) (w : World) (h : FlatAt w 0 w.heap.size p g o (n * 3) (fun j => .int .i64 (z j))) :
    Calls Try.prog 65 #[.slice p n c, .int .i64 b] w fun e w' => e = .returned (.agg #[.int .i64 x0, .int .i64 x1, .int .i64 x2]) ∧ Below w.heap.size w w' := by
  have c3 := cellsPiece
  unfold maxLen at hn
  have HF := Lib.hid h
  have HK := Lib.hid hk
  clear h hk
  go_enter Try.func65, Try.ntmps65
  go_wp2_with fail
  go_loopw [5] (fun v wr => ∃ k : Nat, k ≤ n ∧ v = .int .i64 (k : Int) ∧ wr.heap[w.heap.size]? = some (.cells #[.int .i64 0, .int .i64 0, .int .i64 0] 62 (0, 0)) ∧ Below w.heap.size w wr ∧ Hid (∀ j, j < k → z (j * 3) ≠ b)) (fun v _ => n - (intOf v).toNat)
  case atStart => exact ⟨0, by omega, rfl, heap_new _ _ _ rfl, (Below.refl _ _).alloc (Nat.le_refl _) _, fun j hj => absurd hj (by omega)⟩
  case round =>
    obtain ⟨k, hk, rfl, hx, hbw, HN⟩ := hrel
    obtain ⟨y0, y1, y2, f0, f1, f2⟩ := cells3P hx
    have HX := Lib.hid hx
    clear hx
    by_cases hkn : k < n
    · obtain ⟨rfl, -, hg⟩ := HF.out.1 (by omega)
      obtain ⟨a0, a1, a2⟩ := HF.out.at3 hbw (Nat.le_refl _) k (by omega)
      have hk0 : (0 : Int) ≤ (k : Int) := by omega
      have hkl : (k : Int) < (n : Int) := by omega
      have hwk : IntKind.i64.wrap ((k : Int) + 1) = (k : Int) + 1 := IntWalk.i64_in _ (by omega)
      by_cases hx : z (k * 3) = b
      · have hr : x0 = z (k * 3) ∧ x1 = z (k * 3 + 1) ∧ x2 = z (k * 3 + 2) := by
          rcases HK.out with ⟨k', ⟨h1, h2, h3⟩, e0, e1, e2⟩ | ⟨h1, -⟩
          · have hkk : k' = k := by
              rcases Nat.lt_trichotomy k k' with hl | hl | hl
              · exact absurd hx (h3 k hl)
              · exact hl.symm
              · exact absurd h2 (HN.out k' hl)
            rw [hkk] at e1 e2
            exact ⟨e0.trans hx.symm, e1, e2⟩
          · exact absurd hx (h1 k hkn)
        obtain ⟨u0, u1, u2, -, -, -⟩ := cells3P (set3P HX.out (.int .i64 (z (k * 3))) (.int .i64 (z (k * 3 + 1))) (.int .i64 (z (k * 3 + 2))))
        have HU := Lib.hid (And.intro u0 (And.intro u1 u2))
        have hbq : (z (k * 3) == b) = true := by simpa using hx
        have HR := Lib.hid hr
        have HBW := Lib.hid hbw
        clear hx hr u0 u1 u2
        go_wp2_with fail
        obtain ⟨u0, u1, u2⟩ := HU.out
        rw [HR.out.1, HR.out.2.1, HR.out.2.2]
        refine bodyPost_ret (v := .agg #[.int .i64 (z (k * 3)), .int .i64 (z (k * 3 + 1)), .int .i64 (z (k * 3 + 2))]) (by simp [results, Try.results65, go_sem, u0, u1, u2]) rfl ⟨rfl, ?_⟩
        exact Below.setCell (Below.setCell (Below.setCell HBW.out (Nat.le_refl _) _) (Nat.le_refl _) _) (Nat.le_refl _) _
      · have hbq : (z (k * 3) == b) = false := by simpa using hx
        have HNX := Lib.hid hx
        clear hx
        go_wp2_with fail
        go_roundw
        case rel => exact ⟨k + 1, by omega, by congr 1, HX.out, hbw, fun j hj => by
          by_cases e : j = k
          · subst e; exact HNX.out
          · exact HN.out j (by omega)⟩
        case measure => simp only [intOf]; omega
    · obtain rfl : k = n := by omega
      have hr : x0 = 0 ∧ x1 = 0 ∧ x2 = 0 := by
        rcases HK.out with ⟨k', ⟨h1, h2, h3⟩, -⟩ | ⟨-, h1⟩
        · exact absurd h2 (HN.out k' h1)
        · exact h1
      obtain ⟨rfl, rfl, rfl⟩ := hr
      obtain ⟨u0, u1, u2, -, -, -⟩ := cells3P (set3P HX.out (.int .i64 0) (.int .i64 0) (.int .i64 0))
      have HU := Lib.hid (And.intro u0 (And.intro u1 u2))
      have HBW := Lib.hid hbw
      clear u0 u1 u2
      go_wp2_with fail
      obtain ⟨u0, u1, u2⟩ := HU.out
      refine bodyPost_ret (v := .agg #[.int .i64 0, .int .i64 0, .int .i64 0]) (by simp [results, Try.results65, go_sem, u0, u1, u2]) rfl ⟨rfl, ?_⟩
      exact Below.setCell (Below.setCell (Below.setCell HBW.out (Nat.le_refl _) _) (Nat.le_refl _) _) (Nat.le_refl _) _

end Go.Proofs.Ytnkhjlpeeljelaa
