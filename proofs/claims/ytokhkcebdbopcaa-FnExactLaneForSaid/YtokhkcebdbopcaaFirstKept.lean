/- The first of the best kept bags: the program's firstBest at kept bags, with its comparison. -/
import Derived.Test.YtokhkcebdbopcaaNextPlain
import Derived.Test.YtokhkcebdbopcaaCmpKept
import Derived.Deep.LoopGhost
import Derived.IntWalk
namespace Go.Proofs.Ytokhkcebdbopcaa
open Go.RowKit Go.Shelf
set_option linter.unusedVariables false

theorem nxR_lst {z : Nat → Int} {m : Nat} (h : ∀ j, j < m → z (j * 2 + 1) ≤ 100000) : (nxR (100001, 0) z m).1 = lst z m := by
  induction m with
  | zero => rfl
  | succ m ih =>
    have e := ih (fun j hj => h j (by omega))
    have h1 := h m (by omega)
    show (nxS (nxR (100001, 0) z m) (z (m * 2)) (z (m * 2 + 1))).1 = min (lst z m) (z (m * 2 + 1))
    unfold nxS
    rw [e]
    split <;> simp_all <;> omega
theorem nxR_first {z : Nat → Int} (h : z 1 ≤ 100000) : nxR (100001, 0) z 1 = (z 1, z 0) := by
  show nxS (100001, 0) (z (0 * 2)) (z (0 * 2 + 1)) = _
  unfold nxS
  rw [if_pos (.inl (by simp; omega))]

theorem cellsK2 {w : World} {k : Nat} {a b : Value} {t : TypeId} (h : w.heap[k]? = some (.cells #[a, b] t (0, 0))) :
    w.cell? ⟨k, 0, none⟩ = some a ∧ w.cell? ⟨k, 1, none⟩ = some b ∧ w.frozen? ⟨k, 0, none⟩ = false ∧ w.frozen? ⟨k, 1, none⟩ = false :=
  ⟨by simp [World.cell?, h], by simp [World.cell?, h], by simp [World.frozen?, h], by simp [World.frozen?, h]⟩
theorem cellsKeptF : Try.prog.cellsOf 49 = 2 := by kernel_rfl

/-- What firstBest returns of m kept bags: bag and time. -/
def FkIs (z : Nat → Int) (m : Nat) (b t : Int) : Prop := (m = 0 → b = 0 ∧ t = 0) ∧ (0 < m → (t, b) = nxR (100001, 0) z m)

set_option maxRecDepth 100000 in
set_option maxHeartbeats 4000000 in
theorem iFirstKept_any (m : Nat) (hm : m ≤ 1048576) (z : Nat → Int) (hz : ∀ j, j < m → z (j * 2 + 1) ≤ 100000) (p : Option Addr) (c g o : Nat) (w : World) (h : FlatAt w 0 w.heap.size p g o (m * 2) (fun j => .int .i64 (z j))) :
    Calls Try.prog 70 #[.slice p m c, .func (.func 72) #[] #[]] w fun e w' => (∃ b t : Int, e = .returned (.tuple #[.agg #[.int .i64 b, .int .i64 t], .bool (decide (0 < m))]) ∧ FkIs z m b t) ∧ Below w.heap.size w w' := by
  have eg : ∀ args w, (callFunc 72 args).run Try.prog w = .ok (.enter 72 args) w := enters_of Try.func72 (by kernel_rfl) rfl
  have ck := cellsKeptF
  have H := Lib.hid h
  have HZ := Lib.hid hz
  clear h hz
  obtain ⟨fv, hfv⟩ : ∃ fv : Value, fv = .func (.func 72) #[] #[] := ⟨_, rfl⟩
  go_enter Try.func70, Try.ntmps70
  go_wp2_with fail
  go_loopw [11] (fun iv wr => ∃ (k : Nat) (b t : Int), k ≤ m ∧ iv = .int .i64 (k : Int) ∧ wr.heap[w.heap.size + 1]? = some (.cells #[.int .i64 b, .int .i64 t] 49 (0, 0)) ∧ Hid (wr.heap[w.heap.size]? = some (.cells #[.int .i64 0, .int .i64 0] 49 (0, 0))) ∧ Hid (FkIs z k b t) ∧ Hid (Below w.heap.size w wr)) (fun iv _ => m - (intOf iv).toNat)
  case atStart =>
    refine ⟨0, 0, 0, by omega, rfl, heap_new _ _ _ (by simp), (heap_old _ _ _ (by simp)).trans (heap_new _ _ _ rfl), ⟨fun _ => ⟨rfl, rfl⟩, fun h => absurd h (by omega)⟩, ?_⟩
    exact ((Below.refl _ _).alloc (Nat.le_refl _) _).alloc (by simp) _
  case round =>
    obtain ⟨k, b, t, hk, rfl, hbx, HX0, HF, HB⟩ := hrel
    have hgt : w.heap.size + 1 < wr.heap.size := (Array.getElem?_eq_some_iff.1 hbx).1
    by_cases hkn : k < m
    · obtain ⟨rfl, -, hg⟩ := H.out.1 (by omega)
      obtain ⟨a0, a1⟩ := H.out.at2 HB.out (Nat.le_refl _) k (by omega)
      have hzk := HZ.out k hkn
      have hk0 : (0 : Int) ≤ (k : Int) := by omega
      have hkl : (k : Int) < (m : Int) := by omega
      have hwk : IntKind.i64.wrap ((k : Int) + 1) = (k : Int) + 1 := IntWalk.i64_in _ (by omega)
      have hne : w.heap.size + 1 ≠ wr.heap.size := by omega
      obtain ⟨y0, y1, y2, y3⟩ := cellsK2 hbx
      have HBX := Lib.hid hbx
      have HFY := Lib.hid (fun (hq : k = 0 ∨ z (k * 2 + 1) < t ∨ (z (k * 2 + 1) = t ∧ z (k * 2) < b)) => show FkIs z (k + 1) (z (k * 2)) (z (k * 2 + 1)) from by
        refine ⟨fun h => absurd h (by omega), fun _ => ?_⟩
        by_cases e : k = 0
        · subst e
          exact (nxR_first (by simpa using hzk)).symm
        · show _ = nxS (nxR (100001, 0) z k) _ _
          rw [← HF.out.2 (by omega)]
          exact (if_pos (by rcases hq with hq | hq; exact absurd hq e; exact hq)).symm)
      have HFN := Lib.hid (fun (h0 : 0 < k) (hq : ¬ (z (k * 2 + 1) < t ∨ (z (k * 2 + 1) = t ∧ z (k * 2) < b))) => show FkIs z (k + 1) b t from by
        refine ⟨fun h => absurd h (by omega), fun _ => ?_⟩
        show _ = nxS (nxR (100001, 0) z k) _ _
        rw [← HF.out.2 h0]
        exact (if_neg hq).symm)
      obtain ⟨v0, hv0⟩ : ∃ y, y = z (k * 2) := ⟨_, rfl⟩
      obtain ⟨v1, hv1⟩ : ∃ y, y = z (k * 2 + 1) := ⟨_, rfl⟩
      rw [← hv0] at a0 HFY HFN
      rw [← hv1] at a1 HFY HFN
      clear hv0 hv1 hbx HF hzk
      have rel_yes : ∀ W : World, Below (wr.heap.size + 1) (wr.alloc (.cells #[.int .i64 v0, .int .i64 v1] 49)) W → Hid (((W.setCell ⟨w.heap.size + 1, 0, none⟩ (.int .i64 v0)).setCell ⟨w.heap.size + 1, 1, none⟩ (.int .i64 v1)).heap[w.heap.size + 1]? = some (.cells #[.int .i64 v0, .int .i64 v1] 49 (0, 0)) ∧ ((W.setCell ⟨w.heap.size + 1, 0, none⟩ (.int .i64 v0)).setCell ⟨w.heap.size + 1, 1, none⟩ (.int .i64 v1)).heap[w.heap.size]? = some (.cells #[.int .i64 0, .int .i64 0] 49 (0, 0)) ∧ Below w.heap.size w ((W.setCell ⟨w.heap.size + 1, 0, none⟩ (.int .i64 v0)).setCell ⟨w.heap.size + 1, 1, none⟩ (.int .i64 v1))) := fun W hW => by
        have h1 := (hW.block (w.heap.size + 1) (by omega)).trans ((heap_old _ _ _ hgt).trans HBX.out)
        have h2 := (hW.block w.heap.size (by omega)).trans ((heap_old _ _ _ (by omega)).trans HX0.out)
        refine ⟨blk_set (blk_set h1 _) _, (Below.heap_setCell _ _ _ _ (by show w.heap.size ≠ w.heap.size + 1; omega)).trans ((Below.heap_setCell _ _ _ _ (by show w.heap.size ≠ w.heap.size + 1; omega)).trans h2), ?_⟩
        exact Below.setCell (Below.setCell ((HB.out.alloc (by omega) _).trans (hW.mono (by omega))) (by show w.heap.size ≤ w.heap.size + 1; omega) _) (by show w.heap.size ≤ w.heap.size + 1; omega) _
      have rel_no : ∀ W : World, Below (wr.heap.size + 1) (wr.alloc (.cells #[.int .i64 v0, .int .i64 v1] 49)) W → Hid (W.heap[w.heap.size + 1]? = some (.cells #[.int .i64 b, .int .i64 t] 49 (0, 0)) ∧ W.heap[w.heap.size]? = some (.cells #[.int .i64 0, .int .i64 0] 49 (0, 0)) ∧ Below w.heap.size w W) := fun W hW => by
        have h1 := (hW.block (w.heap.size + 1) (by omega)).trans ((heap_old _ _ _ hgt).trans HBX.out)
        have h2 := (hW.block w.heap.size (by omega)).trans ((heap_old _ _ _ (by omega)).trans HX0.out)
        exact ⟨h1, h2, (HB.out.alloc (by omega) _).trans (hW.mono (by omega))⟩
      have cel : ∀ W : World, Below (wr.heap.size + 1) (wr.alloc (.cells #[.int .i64 v0, .int .i64 v1] 49)) W → W.cell? ⟨wr.heap.size, 0, none⟩ = some (.int .i64 v0) ∧ W.cell? ⟨wr.heap.size, 1, none⟩ = some (.int .i64 v1) ∧ W.cell? ⟨w.heap.size + 1, 0, none⟩ = some (.int .i64 b) ∧ W.cell? ⟨w.heap.size + 1, 1, none⟩ = some (.int .i64 t) ∧ W.frozen? ⟨w.heap.size + 1, 0, none⟩ = false ∧ W.frozen? ⟨w.heap.size + 1, 1, none⟩ = false := fun W hW => by
        have h1 := (hW.block wr.heap.size (by omega)).trans (heap_new _ _ _ rfl)
        obtain ⟨g1, g2, -, -⟩ := cellsK2 h1
        obtain ⟨g5, g6, g3, g4⟩ := cellsK2 ((hW.block (w.heap.size + 1) (by omega)).trans ((heap_old _ _ _ hgt).trans HBX.out))
        exact ⟨g1, g2, g5, g6, g3, g4⟩
      have RY := Lib.hid rel_yes
      have RN := Lib.hid rel_no
      have RC := Lib.hid cel
      clear rel_yes rel_no cel
      by_cases e0 : k = 0
      · have hk00 : ((k : Int) == 0) = true := by simp; omega
        have HX := Lib.hid (HFY.out (.inl e0))
        have HY0 := RY.out _ (Below.refl _ _)
        clear HFY HFN e0
        go_wp2_with fail
        go_roundw
        case rel =>
          refine ⟨k + 1, v0, v1, by omega, by congr 1, ?_, ?_, HX.out, ?_⟩
          · exact (Below.heap_alloc _ _ _ (by simp [World.setCell]; omega)).trans (blk_set (blk_set HBX.out _) _)
          · exact (Below.heap_alloc _ _ _ (by simp [World.setCell]; omega)).trans ((Below.heap_setCell _ _ _ _ (by show w.heap.size ≠ w.heap.size + 1; omega)).trans ((Below.heap_setCell _ _ _ _ (by show w.heap.size ≠ w.heap.size + 1; omega)).trans HX0.out))
          · exact (Below.setCell (Below.setCell HB.out (by show w.heap.size ≤ w.heap.size + 1; omega) _) (by show w.heap.size ≤ w.heap.size + 1; omega) _).alloc (by simp [World.setCell]; omega) _
        case measure => simp only [intOf]; omega
      have hk00 : ((k : Int) == 0) = false := by simp; omega
      by_cases hq : v1 < t ∨ (v1 = t ∧ v0 < b)
      · have hcmp : Hid (∀ W, Calls Try.prog 72 #[.agg #[.int .i64 v0, .int .i64 v1], .agg #[.int .i64 b, .int .i64 t]] W fun e w' => (∃ r : Int, e = .returned (.int .i64 r) ∧ r < 0) ∧ Below W.heap.size W w') := fun W => (cmpKept_any v0 v1 b t W).mono (fun e w' ⟨⟨r, h1, h2⟩, h3⟩ => ⟨⟨r, h1, h2.2 hq⟩, h3⟩)
        have HX := Lib.hid (HFY.out (.inr hq))
        clear HFY HFN hq
        go_wp2_with (go_at_fn 72; refine (hcmp.out _).mono ?_; rintro e w2 ⟨⟨r, rfl, hr⟩, hb2⟩; have hd : decide (r < 0) = true := decide_eq_true hr; have hb3 := hb2.mono (show wr.heap.size + 1 ≤ _ by simp); obtain ⟨c0, c1, c4, c5, c2, c3⟩ := RC.out _ hb3; have HR3 := RY.out _ hb3; clear hb2 hb3 hr)
        go_roundw
        case rel => exact ⟨k + 1, v0, v1, by omega, by congr 1, HR3.out.1, HR3.out.2.1, HX.out, HR3.out.2.2⟩
        case measure => simp only [intOf]; omega
      · have hcmp : Hid (∀ W, Calls Try.prog 72 #[.agg #[.int .i64 v0, .int .i64 v1], .agg #[.int .i64 b, .int .i64 t]] W fun e w' => (∃ r : Int, e = .returned (.int .i64 r) ∧ ¬ (r < 0)) ∧ Below W.heap.size W w') := fun W => (cmpKept_any v0 v1 b t W).mono (fun e w' ⟨⟨r, h1, h2⟩, h3⟩ => ⟨⟨r, h1, fun h => hq (h2.1 h)⟩, h3⟩)
        have HX := Lib.hid (HFN.out (by omega) hq)
        clear HFY HFN hq
        go_wp2_with (go_at_fn 72; refine (hcmp.out _).mono ?_; rintro e w2 ⟨⟨r, rfl, hr⟩, hb2⟩; have hd : decide (r < 0) = false := decide_eq_false hr; have hb3 := hb2.mono (show wr.heap.size + 1 ≤ _ by simp); have HR3 := RN.out _ hb3; clear hb2 hb3 hr)
        go_roundw
        case rel => exact ⟨k + 1, b, t, by omega, by congr 1, HR3.out.1, HR3.out.2.1, HX.out, HR3.out.2.2⟩
        case measure => simp only [intOf]; omega
    · obtain rfl : k = m := by omega
      obtain ⟨y0, y1, y2, y3⟩ := cellsK2 hbx
      obtain ⟨z0, z1, z2, z3⟩ := cellsK2 HX0.out
      have HB9 := Lib.hid (Below.setCell (Below.setCell HB.out (show w.heap.size ≤ (⟨w.heap.size, 0, none⟩ : Addr).block from Nat.le_refl _) (.int .i64 b)) (show w.heap.size ≤ (⟨w.heap.size, 1, none⟩ : Addr).block from Nat.le_refl _) (.int .i64 t))
      by_cases e : 0 < k
      · have hkk : decide ((0 : Int) < (k : Int)) = true := decide_eq_true (by omega)
        go_wp2_with fail
        exact bodyPost_ret (v := .tuple #[.agg #[.int .i64 b, .int .i64 t], .bool true]) (by simp [results, Try.results70, go_sem, z0, z1]) rfl ⟨⟨b, t, by rw [decide_eq_true e], HF.out⟩, HB9.out⟩
      · have hkk : decide ((0 : Int) < (k : Int)) = false := decide_eq_false (by omega)
        go_wp2_with fail
        exact bodyPost_ret (v := .tuple #[.agg #[.int .i64 b, .int .i64 t], .bool false]) (by simp [results, Try.results70, go_sem, z0, z1]) rfl ⟨⟨b, t, by rw [decide_eq_false e], HF.out⟩, HB9.out⟩

end Go.Proofs.Ytokhkcebdbopcaa
