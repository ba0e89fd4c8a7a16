/- The laws' own functions over rows of Piece: v, sz, to, eq, mark. -/
import Derived.Test.YtnkhjlpeeljelaaOwnV
import Derived.Test.YtnkhjlpeeljelaaSmall
import Derived.Test.YtnkhjlpeeljelaaChecked
import Derived.Deep.LoopGhost
import Derived.BigQuiet
import Derived.Deep.QuietTactic
import Derived.Deep.RegionWith
import Derived.OwnWalk
import Derived.Laws.MakeOwn
import Derived.IntWalk
namespace Go.Proofs.Ytnkhjlpeeljelaa
open Go.RowKit

theorem cellsPiece : Try.prog.cellsOf 62 = 3 := by kernel_rfl
theorem cellsLPiece : Try.prog.cellsOf 64 = 3 := by kernel_rfl
theorem infoPiece : (Try.prog.info? 62).map (fun i => (i.zero, i.size, i.bytes)) = some (some (.agg #[.int .i64 0, .int .i64 0, .int .i64 0]), 3, 24) := by kernel_rfl
theorem toPiece_any (x0 x1 x2 : Int) (w : World) :
    Calls Try.prog 54 #[.agg #[.int .i64 x0, .int .i64 x1, .int .i64 x2]] w fun e w' => e = .returned (.agg #[.int .i64 x0, .int .i64 x1, .int .i64 x2]) ∧ Below w.heap.size w w' := by
  go_enter Try.func54, Try.ntmps54
  go_wp2
  refine bodyPost_ret (v := .agg #[.int .i64 x0, .int .i64 x1, .int .i64 x2]) (by simp [results, Try.results54, go_sem]) rfl ⟨rfl, ?_⟩
  repeat (first | exact Below.refl _ _ | refine Below.alloc ?_ (by simp <;> omega) _ | refine Below.setCell ?_ (by simp <;> omega) _ | refine Below.drew ?_)

set_option maxRecDepth 100000 in
set_option maxHeartbeats 1000000 in
theorem toPieceS_any (n : Nat) (hn : n ≤ 1048576) (z : Nat → Int) (p : Option Addr) (c g o : Nat) (w : World) (h : FlatAt w 0 w.heap.size p g o (n * 3) (fun j => .int .i64 (z j))) :
    Calls Try.prog 20 #[.slice p n c] w fun e w' => ∃ p' c' g', e = .returned (.slice p' n c') ∧ n ≤ c' ∧ FlatAt w' w.heap.size w'.heap.size p' g' 0 (n * 3) (fun j => .int .i64 (z j)) ∧ FreeAt w' g' 0 (n * 3) ∧ Below w.heap.size w w' := by
  obtain ⟨i0, hi, hz0, hz1, hz2⟩ := info_parts infoPiece
  have hmk := fun W => run_make (P := Try.prog) W 31 62 i0 _ Try.underlying31 hi hz0 .i64 .i64 (n : Int) (n : Int) (by omega) (by omega) (by rw [hz2]; omega) (by omega)
  simp only [Int.toNat_natCast, hz1] at hmk
  obtain ⟨C, hC⟩ : ∃ C, C = madeCells (Value.agg #[.int .i64 0, .int .i64 0, .int .i64 0]).cells (n * 3) := ⟨_, rfl⟩
  have hCs : C.size = n * 3 := by rw [hC]; exact size_madeCells _ _
  rw [← hC] at hmk
  have H := Lib.hid h
  have HC := Lib.hid hCs
  have c3 := cellsPiece
  have c3l := cellsLPiece
  clear h hC hCs hz0 hz1 hz2
  go_enter Try.func20, Try.ntmps20
  go_wp2_with fail
  go_loopw [4] (fun v wr => ∃ (k : Nat) (cur : Array Value), k ≤ n ∧ v = .int .i64 (k : Int) ∧ wr.heap[w.heap.size]? = some (.cells cur 62 (0, 0)) ∧ cur.size = n * 3 ∧ Hid (∀ j, j < k * 3 → cur[j]? = some (.int .i64 (z j))) ∧ Below w.heap.size w wr) (fun v _ => n - (intOf v).toNat)
  case atStart => exact ⟨0, C, by omega, rfl, heap_alloc_new _ _, HC.out, fun j hj => absurd hj (by omega), (Below.refl _ _).alloc (Nat.le_refl _) _⟩
  case round =>
    obtain ⟨k, cur, hk, rfl, hblk, hcs, HY, hbw⟩ := hrel
    by_cases hkn : k < n
    · obtain ⟨rfl, -, hg⟩ := H.out.1 (by omega)
      have a0 := (hbw.cell (p := ⟨g, o + k * 3, none⟩) hg).trans (H.out.int (k * 3) (by omega))
      have a1 := (hbw.cell (p := ⟨g, o + k * 3 + 1, none⟩) hg).trans (H.out.int (k * 3 + 1) (by omega))
      have a2 := (hbw.cell (p := ⟨g, o + k * 3 + 2, none⟩) hg).trans (H.out.int (k * 3 + 2) (by omega))
      have hk0 : (0 : Int) ≤ (k : Int) := by omega
      have hkl : (k : Int) < (n : Int) := by omega
      have hgs : w.heap.size < wr.heap.size := (Array.getElem?_eq_some_iff.1 hblk).1
      obtain ⟨u0, hu0⟩ : ∃ u, cur[k * 3]? = some u := ⟨_, Array.getElem?_eq_getElem (by omega)⟩
      obtain ⟨u1, hu1⟩ : ∃ u, cur[k * 3 + 1]? = some u := ⟨_, Array.getElem?_eq_getElem (by omega)⟩
      obtain ⟨u2, hu2⟩ : ∃ u, cur[k * 3 + 2]? = some u := ⟨_, Array.getElem?_eq_getElem (by omega)⟩
      have HB := Lib.hid hblk
      clear hblk
      go_wp2_with (go_at_call 54; refine (toPiece_any (z (k * 3)) (z (k * 3 + 1)) (z (k * 3 + 2)) _).mono ?_; rintro e w2 ⟨rfl, hb2⟩; have hblk2 := (hb2.block _ hgs).trans HB.out; have b0 := (cell_of_row w2 w.heap.size (k * 3) cur 62 (0, 0) hblk2).trans hu0; have b1 := (cell_of_row w2 w.heap.size (k * 3 + 1) cur 62 (0, 0) hblk2).trans hu1; have b2 := (cell_of_row w2 w.heap.size (k * 3 + 2) cur 62 (0, 0) hblk2).trans hu2; have f0 := frozen_of_row w2 w.heap.size (k * 3) cur 62 hblk2; have f1 := frozen_of_row w2 w.heap.size (k * 3 + 1) cur 62 hblk2; have f2 := frozen_of_row w2 w.heap.size (k * 3 + 2) cur 62 hblk2; have HB2 := Lib.hid hblk2; clear hblk2)
      go_roundw
      case rel =>
        refine ⟨k + 1, _, by omega, by congr 1, blk_set (blk_set (blk_set (HB2.out) _) _) _, by simp [hcs], ?_, ?_⟩
        · intro j hj
          simp only [Array.getElem?_setIfInBounds, Array.size_setIfInBounds]
          by_cases e2 : k * 3 + 2 = j
          · subst e2; simp [hcs]; try omega
          rw [if_neg e2]
          by_cases e1 : k * 3 + 1 = j
          · subst e1; simp [hcs]; try omega
          rw [if_neg e1]
          by_cases e0 : k * 3 = j
          · subst e0; simp [hcs]; try omega
          rw [if_neg e0]
          exact HY.out j (by omega)
        · exact Below.setCell (Below.setCell (Below.setCell (hbw.trans (hb2.mono hbw.size)) (Nat.le_refl _) _) (Nat.le_refl _) _) (Nat.le_refl _) _
      case measure => simp only [intOf]; omega
    · obtain rfl : k = n := by omega
      have hgs : w.heap.size < wr.heap.size := (Array.getElem?_eq_some_iff.1 hblk).1
      have HB := Lib.hid hblk
      clear hblk
      go_wp2_with fail
      go_ret
      exact ⟨_, _, w.heap.size, rfl, Nat.le_refl _, ⟨fun _ => ⟨rfl, Nat.le_refl _, hgs⟩, fun j hj => by rw [Nat.zero_add, cell_of_row wr _ _ _ _ _ HB.out]; exact HY.out j hj⟩, fun j _ => frozen_of_row wr _ _ _ _ HB.out, hbw⟩

theorem eqPiece_one (x0 x1 x2 : Int) (w : World) :
    Calls Try.prog 56 #[.agg #[.int .i64 x0, .int .i64 x1, .int .i64 x2], .agg #[.int .i64 x0, .int .i64 x1, .int .i64 x2]] w fun e w' => e = .returned (.bool true) ∧ Below w.heap.size w w' := by
  go_enter Try.func56, Try.ntmps56
  go_wp2
  go_ret
  refine ⟨rfl, ?_⟩
  repeat (first | exact Below.refl _ _ | refine Below.alloc ?_ (by simp <;> omega) _ | refine Below.setCell ?_ (by simp <;> omega) _ | refine Below.drew ?_)

set_option maxRecDepth 100000 in
set_option maxHeartbeats 1000000 in
theorem eqPieceS_any (n : Nat) (hn : n ≤ 1048576) (z : Nat → Int) (pa pb : Option Addr) (ca cb ga oa gb ob : Nat) (w : World)
    (ha : FlatAt w 0 w.heap.size pa ga oa (n * 3) (fun j => .int .i64 (z j))) (hb : FlatAt w 0 w.heap.size pb gb ob (n * 3) (fun j => .int .i64 (z j))) :
    Calls Try.prog 22 #[.slice pa n ca, .slice pb n cb] w fun e w' => e = .returned (.bool true) ∧ Below w.heap.size w w' := by
  have HA := Lib.hid ha
  have HB := Lib.hid hb
  clear ha hb
  have c3 := cellsPiece
  go_enter Try.func22, Try.ntmps22
  go_wp2_with fail
  go_loopw [5] (fun v wr => ∃ k : Nat, k ≤ n ∧ v = .int .i64 (k : Int) ∧ Below w.heap.size w wr) (fun v _ => n - (intOf v).toNat)
  case atStart => exact ⟨0, by omega, rfl, Below.refl _ _⟩
  case round =>
    obtain ⟨k, hk, rfl, hbw⟩ := hrel
    by_cases hkn : k < n
    · obtain ⟨rfl, -, hga⟩ := HA.out.1 (by omega)
      obtain ⟨rfl, -, hgb⟩ := HB.out.1 (by omega)
      have a0 := (hbw.cell (p := ⟨ga, oa + k * 3, none⟩) hga).trans (HA.out.int (k * 3) (by omega))
      have b0 := (hbw.cell (p := ⟨gb, ob + k * 3, none⟩) hgb).trans (HB.out.int (k * 3) (by omega))
      have a1 := (hbw.cell (p := ⟨ga, oa + k * 3 + 1, none⟩) hga).trans (HA.out.int (k * 3 + 1) (by omega))
      have b1 := (hbw.cell (p := ⟨gb, ob + k * 3 + 1, none⟩) hgb).trans (HB.out.int (k * 3 + 1) (by omega))
      have a2 := (hbw.cell (p := ⟨ga, oa + k * 3 + 2, none⟩) hga).trans (HA.out.int (k * 3 + 2) (by omega))
      have b2 := (hbw.cell (p := ⟨gb, ob + k * 3 + 2, none⟩) hgb).trans (HB.out.int (k * 3 + 2) (by omega))
      obtain ⟨x0, hx0⟩ : ∃ x, x = z (k * 3) := ⟨_, rfl⟩
      rw [← hx0] at a0 b0
      clear hx0
      obtain ⟨x1, hx1⟩ : ∃ x, x = z (k * 3 + 1) := ⟨_, rfl⟩
      rw [← hx1] at a1 b1
      clear hx1
      obtain ⟨x2, hx2⟩ : ∃ x, x = z (k * 3 + 2) := ⟨_, rfl⟩
      rw [← hx2] at a2 b2
      clear hx2
      have hk0 : (0 : Int) ≤ (k : Int) := by omega
      have hkl : (k : Int) < (n : Int) := by omega
      go_wp2_with fail
      go_region_with (go_at_call 56; refine (eqPiece_one x0 x1 x2 _).mono ?_; rintro e w2 ⟨rfl, hb2⟩)
      all_goals
        have hbw2 : Below w.heap.size w w2 := by first | exact hbw.trans (hb2.mono hbw.size) | exact hbw.drew.trans (hb2.mono hbw.size)
        go_wp2_with fail
        go_roundw
        case rel => exact ⟨k + 1, by omega, by congr 1, hbw2⟩
        case measure => simp only [intOf]; omega
    · obtain rfl : k = n := by omega
      go_wp2_with fail
      go_ret
      exact ⟨rfl, hbw⟩

set_option maxRecDepth 100000 in
set_option maxHeartbeats 1000000 in
theorem markPieceS_any (k0 n : Nat) (hn : n ≤ 1048576) (hk9 : k0 ≤ 1099511627776) (f : Nat → Value) (lo hi : Nat) (p : Option Addr) (c g o : Nat) (w : World) (h : FlatAt w lo hi p g o (n * 3) f) (hf : FreeAt w g o (n * 3)) :
    Calls Try.prog 45 #[.slice p n c, .int .i64 (k0 : Int)] w fun e w' => e = .returned (.int .i64 ((k0 + n * 3 : Nat) : Int)) ∧ FlatAt w' lo hi p g o (n * 3) (fun j => .int .i64 ((k0 + j : Nat) : Int)) ∧ FreeAt w' g o (n * 3) ∧ w.grownBy w' (some g) := by
  have H := Lib.hid h.1
  have H1 := Lib.hid h
  have H2 := Lib.hid hf
  clear h hf
  have c3 := cellsPiece
  go_enter Try.func45, Try.ntmps45
  go_wp2_with fail
  go_loopw [1, 5] (fun m v wr => ∃ k : Nat, k ≤ n ∧ v = .int .i64 (k : Int) ∧ m = .int .i64 ((k0 + k * 3 : Nat) : Int) ∧ FlatAt wr lo hi p g o (n * 3) (fun j => if j < k * 3 then .int .i64 ((k0 + j : Nat) : Int) else f j) ∧ FreeAt wr g o (n * 3) ∧ w.grownBy wr (some g)) (fun _ v _ => n - (intOf v).toNat)
  case atStart => exact ⟨0, by omega, rfl, by congr 1, H1.out.congr (fun j hj => by rw [if_neg (by omega)]), H2.out, ⟨rfl, rfl, rfl, Nat.le_refl _, fun _ _ _ => rfl⟩⟩
  case round =>
    obtain ⟨k, hk, rfl, rfl, h1, h2, hgr⟩ := hrel
    by_cases hkn : k < n
    · obtain ⟨rfl, -, hg⟩ := H.out (by omega)
      obtain ⟨u0, a0⟩ : ∃ u, wr.cell? ⟨g, o + k * 3, none⟩ = some u := ⟨_, h1.2 (k * 3) (by omega)⟩
      have f0 : wr.frozen? ⟨g, o + k * 3, none⟩ = false := h2 (k * 3) (by omega)
      obtain ⟨u1, a1⟩ : ∃ u, wr.cell? ⟨g, o + k * 3 + 1, none⟩ = some u := ⟨_, h1.2 (k * 3 + 1) (by omega)⟩
      have f1 : wr.frozen? ⟨g, o + k * 3 + 1, none⟩ = false := h2 (k * 3 + 1) (by omega)
      obtain ⟨u2, a2⟩ : ∃ u, wr.cell? ⟨g, o + k * 3 + 2, none⟩ = some u := ⟨_, h1.2 (k * 3 + 2) (by omega)⟩
      have f2 : wr.frozen? ⟨g, o + k * 3 + 2, none⟩ = false := h2 (k * 3 + 2) (by omega)
      obtain ⟨z, hz⟩ : ∃ z : Nat, z = k0 + k * 3 := ⟨_, rfl⟩
      rw [← hz]
      have s0 := h1.set (u := .int .i64 ((z : Int))) (k * 3) (by omega)
      have s1 := s0.set (u := .int .i64 ((z : Int) + 1)) (k * 3 + 1) (by omega)
      have s2 := s1.set (u := .int .i64 ((z : Int) + 1 + 1)) (k * 3 + 2) (by omega)
      have sf : FreeAt ((((wr.setCell ⟨g, o + (k * 3), none⟩ (.int .i64 ((z : Int)))).setCell ⟨g, o + (k * 3 + 1), none⟩ (.int .i64 ((z : Int) + 1))).setCell ⟨g, o + (k * 3 + 2), none⟩ (.int .i64 ((z : Int) + 1 + 1)))) g o (n * 3) := (((h2.set _ _).set _ _).set _ _)
      have sg : w.grownBy ((((wr.setCell ⟨g, o + (k * 3), none⟩ (.int .i64 ((z : Int)))).setCell ⟨g, o + (k * 3 + 1), none⟩ (.int .i64 ((z : Int) + 1))).setCell ⟨g, o + (k * 3 + 2), none⟩ (.int .i64 ((z : Int) + 1 + 1)))) (some g) := grown_setCell (grown_setCell (grown_setCell (hgr) (.inl rfl) _) (.inl rfl) _) (.inl rfl) _
      have hz9 : z ≤ 1099611627776 := by omega
      have HZ := Lib.hid hz
      have HS := Lib.hid s2
      have HF := Lib.hid sf
      have HG := Lib.hid sg
      clear hz h1 h2 hgr sf sg s0 s1 s2
      have hk0 : (0 : Int) ≤ (k : Int) := by omega
      have hkl : (k : Int) < (n : Int) := by omega
      go_wp2_with fail
      go_roundw
      case rel =>
        refine ⟨k + 1, by omega, by congr 1, by congr 1; have := HZ.out; omega, HS.out.congr ?_, HF.out, HG.out⟩
        intro j hj
        show (if _ then _ else _) = _
        by_cases e2 : j = k * 3 + 2
        · subst e2; rw [if_pos rfl, if_pos (by omega)]; congr 1; have := HZ.out; omega
        rw [if_neg e2]
        by_cases e1 : j = k * 3 + 1
        · subst e1; rw [if_pos rfl, if_pos (by omega)]; congr 1; have := HZ.out; omega
        rw [if_neg e1]
        by_cases e0 : j = k * 3
        · subst e0; rw [if_pos rfl, if_pos (by omega)]; congr 1; have := HZ.out; omega
        rw [if_neg e0]
        by_cases e : j < k * 3
        · rw [if_pos e, if_pos (by omega)]
        · rw [if_neg e, if_neg (by omega)]
      case measure => simp only [intOf]; omega
    · obtain rfl : k = n := by omega
      have H1 := Lib.hid h1
      have H2 := Lib.hid h2
      have HG := Lib.hid hgr
      clear h1 h2 hgr
      go_wp2_with fail
      go_ret
      exact ⟨rfl, H1.out.congr (fun j hj => if_pos hj), H2.out, HG.out⟩

theorem markPieceS_touch (k0 n : Nat) (hn : n ≤ 1048576) (hk9 : k0 ≤ 1099511627776) (f : Nat → Value) (lo hi : Nat) (p : Option Addr) (c g o : Nat) (w : World) (h : FlatAt w lo hi p g o (n * 3) f) (hf : FreeAt w g o (n * 3)) :
    Calls Try.prog 45 #[.slice p n c, .int .i64 (k0 : Int)] w fun e w' => e = .returned (.int .i64 ((k0 + n * 3 : Nat) : Int)) ∧ FlatAt w' lo hi p g o (n * 3) (fun j => .int .i64 ((k0 + j : Nat) : Int)) ∧ FreeAt w' g o (n * 3) ∧ Touch lo hi w w' := by
  rcases Nat.eq_zero_or_pos n with h0 | h0
  · subst h0
    refine (markPieceS_any k0 0 hn hk9 f lo hi p c w.heap.size o w (by rw [Nat.zero_mul]; exact FlatAt.zero _ _ _ _ _ _ _) (fun j hj => absurd hj (by omega))).mono ?_
    rintro e w' ⟨h1, h2, h3, h4⟩
    exact ⟨h1, (by rw [Nat.zero_mul]; exact FlatAt.zero _ _ _ _ _ _ _), (fun j hj => absurd hj (by omega)), Touch.of_grown h4 (fun k hk _ e => by injection e with e; omega)⟩
  · refine (markPieceS_any k0 n hn hk9 f lo hi p c g o w h hf).mono ?_
    rintro e w' ⟨h1, h2, h3, h4⟩
    have hg := h.1 (by omega)
    exact ⟨h1, h2, h3, Touch.of_grown h4 (fun k hk ho e => by injection e with e; omega)⟩

/-! In values. -/
theorem szPieceS_v (n : Nat) (v : Value) (l : Nat) (hl : l ≤ 1099511627776) (hn : n ≤ maxLen) (m : Nat) (z : Nat → Int) (w : World) (h : Rd w v n m z) :
    Calls Try.prog 18 #[v, .int .i64 (l : Int)] w fun e w' => e = .returned (.int .i64 (if n ≤ l then ((l - n : Nat) : Int) else -1)) ∧ w = w' := by
  unfold maxLen at hn
  obtain ⟨p, c, g, o, rfl, -, -⟩ := h
  by_cases h : n ≤ l
  · rw [if_pos h]
    have h1 : (l : Int) - (n : Int) = ((l - n : Nat) : Int) := by omega
    have H1 := Lib.hid h1
    have h2 : ¬ ((l : Int) - (n : Int) < 0) := by omega
    clear h1
    go_enter Try.func18, Try.ntmps18
    go_wp2
    go_ret
    refine ⟨?_, rfl⟩
    rw [← H1.out]
    rfl
  · rw [if_neg h]
    have h2 : (l : Int) - (n : Int) < 0 := by omega
    go_enter Try.func18, Try.ntmps18
    go_wp2
    go_ret
    exact ⟨rfl, rfl⟩

theorem toPieceS_v (n : Nat) (hn : n ≤ 1048576) (z : Nat → Int) (v : Value) (w : World) (h : Rd w v n (n * 3) z) :
    Calls Try.prog 20 #[v] w fun e w' => ∃ v', e = .returned v' ∧ Own w' w.heap.size w'.heap.size v' n (n * 3) z ∧ Below w.heap.size w w' := by
  obtain ⟨p, c, g, o, rfl, -, h⟩ := h
  refine (toPieceS_any n hn z p c g o w h).mono ?_
  rintro e w' ⟨p', c', g', he, hc, h1, h2, hb⟩
  exact ⟨_, he, ⟨p', c', g', 0, rfl, hc, h1, h2⟩, hb⟩

theorem eqPieceS_v (n : Nat) (hn : n ≤ 1048576) (z : Nat → Int) (va vb : Value) (w : World) (ha : Rd w va n (n * 3) z) (hb : Rd w vb n (n * 3) z) :
    Calls Try.prog 22 #[va, vb] w fun e w' => e = .returned (.bool true) ∧ Below w.heap.size w w' := by
  obtain ⟨pa, ca, ga, oa, rfl, -, ha⟩ := ha
  obtain ⟨pb, cb, gb, ob, rfl, -, hb⟩ := hb
  exact eqPieceS_any n hn z pa pb ca cb ga oa gb ob w ha hb

theorem markPieceS_v (k0 n : Nat) (hn : n ≤ 1048576) (hk9 : k0 ≤ 1099511627776) (z : Nat → Int) (lo hi : Nat) (v : Value) (w : World) (h : Own w lo hi v n (n * 3) z) :
    Calls Try.prog 45 #[v, .int .i64 (k0 : Int)] w fun e w' => e = .returned (.int .i64 ((k0 + n * 3 : Nat) : Int)) ∧ Own w' lo hi v n (n * 3) (fun j => ((k0 + j : Nat) : Int)) ∧ Touch lo hi w w' := by
  obtain ⟨p, c, g, o, rfl, h1, h, hf⟩ := h
  refine (markPieceS_touch k0 n hn hk9 _ lo hi p c g o w h hf).mono ?_
  rintro e w' ⟨he, a, b, t⟩
  exact ⟨he, ⟨p, c, g, o, rfl, h1, a, b⟩, t⟩

end Go.Proofs.Ytnkhjlpeeljelaa
