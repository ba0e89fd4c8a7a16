/- The first of the best openings: the program's firstBest at openings, with its comparison. -/
import Derived.Test.YtokhkcebdbopcaaLanePlain
import Derived.Test.YtokhkcebdbopcaaCmpKept
import Derived.Deep.LoopGhost
import Derived.IntWalk
namespace Go.Proofs.Ytokhkcebdbopcaa
open Go.RowKit Go.Shelf
set_option linter.unusedVariables false

/-- Opening j is better than opening b. -/
def oLt (z : Nat → Int) (j b : Nat) : Prop := z (j * 3 + 1) < z (b * 3 + 1) ∨ (z (j * 3 + 1) = z (b * 3 + 1) ∧ z (j * 3 + 2) < z (b * 3 + 2))
instance (z : Nat → Int) (j b : Nat) : Decidable (oLt z j b) := by unfold oLt; exact inferInstance
/-- The first of the best of the first m. -/
def fo (z : Nat → Int) : Nat → Nat
  | 0 => 0
  | m + 1 => if m = 0 ∨ oLt z m (fo z m) then m else fo z m
theorem fo_lt (z : Nat → Int) : ∀ m, 0 < m → fo z m < m
  | m + 1, _ => by
    show (if _ then m else fo z m) < m + 1
    split
    · omega
    · next h =>
      have := fo_lt z m (by omega)
      omega
theorem cellsO3 {w : World} {k : Nat} {a b c : Value} {t : TypeId} (h : w.heap[k]? = some (.cells #[a, b, c] t (0, 0))) :
    w.cell? ⟨k, 0, none⟩ = some a ∧ w.cell? ⟨k, 1, none⟩ = some b ∧ w.cell? ⟨k, 2, none⟩ = some c ∧ w.frozen? ⟨k, 0, none⟩ = false ∧ w.frozen? ⟨k, 1, none⟩ = false ∧ w.frozen? ⟨k, 2, none⟩ = false :=
  ⟨by simp [World.cell?, h], by simp [World.cell?, h], by simp [World.cell?, h], by simp [World.frozen?, h], by simp [World.frozen?, h], by simp [World.frozen?, h]⟩
theorem cellsOpenF : Try.prog.cellsOf 66 = 3 := by kernel_rfl

/-- What firstBest returns of m openings. -/
def FoIs (z : Nat → Int) (m : Nat) (a b c : Int) : Prop := (m = 0 → a = 0 ∧ b = 0 ∧ c = 0) ∧ (0 < m → a = z (fo z m * 3) ∧ b = z (fo z m * 3 + 1) ∧ c = z (fo z m * 3 + 2))

set_option maxRecDepth 100000 in
set_option maxHeartbeats 4000000 in
theorem iFirstOpen_any (m : Nat) (hm : m ≤ 1048576) (z : Nat → Int) (p : Option Addr) (c g o : Nat) (w : World) (h : FlatAt w 0 w.heap.size p g o (m * 3) (fun j => .int .i64 (z j))) :
    Calls Try.prog 56 #[.slice p m c, .func (.func 58) #[] #[]] w fun e w' => (∃ b0 b1 b2 : Int, e = .returned (.tuple #[.agg #[.int .i64 b0, .int .i64 b1, .int .i64 b2], .bool (decide (0 < m))]) ∧ FoIs z m b0 b1 b2) ∧ Below w.heap.size w w' := by
  have eg : ∀ args w, (callFunc 58 args).run Try.prog w = .ok (.enter 58 args) w := enters_of Try.func58 (by kernel_rfl) rfl
  have ck := cellsOpenF
  have H := Lib.hid h
  clear h
  go_enter Try.func56, Try.ntmps56
  go_wp2_with fail
  go_loopw [11] (fun iv wr => ∃ (k : Nat) (b0 b1 b2 : Int), k ≤ m ∧ iv = .int .i64 (k : Int) ∧ wr.heap[w.heap.size + 1]? = some (.cells #[.int .i64 b0, .int .i64 b1, .int .i64 b2] 66 (0, 0)) ∧ Hid (wr.heap[w.heap.size]? = some (.cells #[.int .i64 0, .int .i64 0, .int .i64 0] 66 (0, 0))) ∧ Hid (FoIs z k b0 b1 b2) ∧ Hid (Below w.heap.size w wr)) (fun iv _ => m - (intOf iv).toNat)
  case atStart =>
    refine ⟨0, 0, 0, 0, by omega, rfl, heap_new _ _ _ (by simp), (heap_old _ _ _ (by simp)).trans (heap_new _ _ _ rfl), ⟨fun _ => ⟨rfl, rfl, rfl⟩, fun h => absurd h (by omega)⟩, ?_⟩
    exact ((Below.refl _ _).alloc (Nat.le_refl _) _).alloc (by simp) _
  case round =>
    obtain ⟨k, b0, b1, b2, hk, rfl, hbx, HX0, HF, HB⟩ := hrel
    have hgt : w.heap.size + 1 < wr.heap.size := (Array.getElem?_eq_some_iff.1 hbx).1
    by_cases hkn : k < m
    · obtain ⟨rfl, -, hg⟩ := H.out.1 (by omega)
      obtain ⟨a0, a1, a2⟩ := H.out.at3 HB.out (Nat.le_refl _) k (by omega)
      have hk0 : (0 : Int) ≤ (k : Int) := by omega
      have hkl : (k : Int) < (m : Int) := by omega
      have hwk : IntKind.i64.wrap ((k : Int) + 1) = (k : Int) + 1 := IntWalk.i64_in _ (by omega)
      have hne : w.heap.size + 1 ≠ wr.heap.size := by omega
      obtain ⟨y0, y1, y2, y3, y4, y5⟩ := cellsO3 hbx
      have HBX := Lib.hid hbx
      have HFY := Lib.hid (fun (hq : k = 0 ∨ z (k * 3 + 1) < b1 ∨ (z (k * 3 + 1) = b1 ∧ z (k * 3 + 2) < b2)) => show FoIs z (k + 1) (z (k * 3)) (z (k * 3 + 1)) (z (k * 3 + 2)) from by
        refine ⟨fun h => absurd h (by omega), fun _ => ?_⟩
        have e : fo z (k + 1) = k := by
          show (if k = 0 ∨ oLt z k (fo z k) then k else fo z k) = k
          rcases Nat.eq_zero_or_pos k with e | e
          · rw [if_pos (.inl e)]
          · refine if_pos (.inr ?_)
            obtain ⟨-, h1, h2⟩ := HF.out.2 e
            unfold oLt
            rw [← h1, ← h2]
            rcases hq with hq | hq
            · omega
            · exact hq
        rw [e]
        exact ⟨rfl, rfl, rfl⟩)
      have HFN := Lib.hid (fun (h0 : 0 < k) (hq : ¬ (z (k * 3 + 1) < b1 ∨ (z (k * 3 + 1) = b1 ∧ z (k * 3 + 2) < b2))) => show FoIs z (k + 1) b0 b1 b2 from by
        refine ⟨fun h => absurd h (by omega), fun _ => ?_⟩
        obtain ⟨h0', h1, h2⟩ := HF.out.2 h0
        have e : fo z (k + 1) = fo z k := by
          show (if k = 0 ∨ oLt z k (fo z k) then k else fo z k) = _
          refine if_neg ?_
          rintro (h | h)
          · omega
          · unfold oLt at h
            rw [← h1, ← h2] at h
            exact hq h
        rw [e]
        exact ⟨h0', h1, h2⟩)
      obtain ⟨v0, hv0⟩ : ∃ y, y = z (k * 3) := ⟨_, rfl⟩
      obtain ⟨v1, hv1⟩ : ∃ y, y = z (k * 3 + 1) := ⟨_, rfl⟩
      obtain ⟨v2, hv2⟩ : ∃ y, y = z (k * 3 + 2) := ⟨_, rfl⟩
      rw [← hv0] at a0 HFY
      rw [← hv1] at a1 HFY HFN
      rw [← hv2] at a2 HFY HFN
      clear hv0 hv1 hv2 hbx HF
      have rel_yes : ∀ W : World, Below (wr.heap.size + 1) (wr.alloc (.cells #[.int .i64 v0, .int .i64 v1, .int .i64 v2] 66)) W → Hid ((((W.setCell ⟨w.heap.size + 1, 0, none⟩ (.int .i64 v0)).setCell ⟨w.heap.size + 1, 1, none⟩ (.int .i64 v1)).setCell ⟨w.heap.size + 1, 2, none⟩ (.int .i64 v2)).heap[w.heap.size + 1]? = some (.cells #[.int .i64 v0, .int .i64 v1, .int .i64 v2] 66 (0, 0)) ∧ (((W.setCell ⟨w.heap.size + 1, 0, none⟩ (.int .i64 v0)).setCell ⟨w.heap.size + 1, 1, none⟩ (.int .i64 v1)).setCell ⟨w.heap.size + 1, 2, none⟩ (.int .i64 v2)).heap[w.heap.size]? = some (.cells #[.int .i64 0, .int .i64 0, .int .i64 0] 66 (0, 0)) ∧ Below w.heap.size w (((W.setCell ⟨w.heap.size + 1, 0, none⟩ (.int .i64 v0)).setCell ⟨w.heap.size + 1, 1, none⟩ (.int .i64 v1)).setCell ⟨w.heap.size + 1, 2, none⟩ (.int .i64 v2))) := fun W hW => by
        have h1 := (hW.block (w.heap.size + 1) (by omega)).trans ((heap_old _ _ _ hgt).trans HBX.out)
        have h2 := (hW.block w.heap.size (by omega)).trans ((heap_old _ _ _ (by omega)).trans HX0.out)
        refine ⟨blk_set (blk_set (blk_set h1 _) _) _, (Below.heap_setCell _ _ _ _ (by show w.heap.size ≠ w.heap.size + 1; omega)).trans ((Below.heap_setCell _ _ _ _ (by show w.heap.size ≠ w.heap.size + 1; omega)).trans ((Below.heap_setCell _ _ _ _ (by show w.heap.size ≠ w.heap.size + 1; omega)).trans h2)), ?_⟩
        exact Below.setCell (Below.setCell (Below.setCell ((HB.out.alloc (by omega) _).trans (hW.mono (by omega))) (by show w.heap.size ≤ w.heap.size + 1; omega) _) (by show w.heap.size ≤ w.heap.size + 1; omega) _) (by show w.heap.size ≤ w.heap.size + 1; omega) _
      have rel_no : ∀ W : World, Below (wr.heap.size + 1) (wr.alloc (.cells #[.int .i64 v0, .int .i64 v1, .int .i64 v2] 66)) W → Hid (W.heap[w.heap.size + 1]? = some (.cells #[.int .i64 b0, .int .i64 b1, .int .i64 b2] 66 (0, 0)) ∧ W.heap[w.heap.size]? = some (.cells #[.int .i64 0, .int .i64 0, .int .i64 0] 66 (0, 0)) ∧ Below w.heap.size w W) := fun W hW => by
        have h1 := (hW.block (w.heap.size + 1) (by omega)).trans ((heap_old _ _ _ hgt).trans HBX.out)
        have h2 := (hW.block w.heap.size (by omega)).trans ((heap_old _ _ _ (by omega)).trans HX0.out)
        exact ⟨h1, h2, (HB.out.alloc (by omega) _).trans (hW.mono (by omega))⟩
      have RY := Lib.hid rel_yes
      have RN := Lib.hid rel_no
      have cel : ∀ W : World, Below (wr.heap.size + 1) (wr.alloc (.cells #[.int .i64 v0, .int .i64 v1, .int .i64 v2] 66)) W → Hid (W.heap[wr.heap.size]? = some (.cells #[.int .i64 v0, .int .i64 v1, .int .i64 v2] 66 (0, 0)) ∧ W.heap[w.heap.size + 1]? = some (.cells #[.int .i64 b0, .int .i64 b1, .int .i64 b2] 66 (0, 0))) := fun W hW =>
        ⟨(hW.block wr.heap.size (by omega)).trans (heap_new _ _ _ rfl), (hW.block (w.heap.size + 1) (by omega)).trans ((heap_old _ _ _ hgt).trans HBX.out)⟩
      have RC := Lib.hid cel
      clear rel_yes rel_no cel
      by_cases e0 : k = 0
      · have hk00 : ((k : Int) == 0) = true := by simp; omega
        have HX := Lib.hid (HFY.out (.inl e0))
        clear HFY HFN e0
        go_wp2_with fail
        go_roundw
        case rel =>
          refine ⟨k + 1, v0, v1, v2, by omega, by congr 1, ?_, ?_, HX.out, ?_⟩
          · exact (Below.heap_alloc _ _ _ (by simp [World.setCell]; omega)).trans (blk_set (blk_set (blk_set HBX.out _) _) _)
          · exact (Below.heap_alloc _ _ _ (by simp [World.setCell]; omega)).trans ((Below.heap_setCell _ _ _ _ (by show w.heap.size ≠ w.heap.size + 1; omega)).trans ((Below.heap_setCell _ _ _ _ (by show w.heap.size ≠ w.heap.size + 1; omega)).trans ((Below.heap_setCell _ _ _ _ (by show w.heap.size ≠ w.heap.size + 1; omega)).trans HX0.out)))
          · exact (Below.setCell (Below.setCell (Below.setCell HB.out (by show w.heap.size ≤ w.heap.size + 1; omega) _) (by show w.heap.size ≤ w.heap.size + 1; omega) _) (by show w.heap.size ≤ w.heap.size + 1; omega) _).alloc (by simp [World.setCell]; omega) _
        case measure => simp only [intOf]; omega
      have hk00 : ((k : Int) == 0) = false := by simp; omega
      by_cases hq : v1 < b1 ∨ (v1 = b1 ∧ v2 < b2)
      · have hcmp : Hid (∀ W, Calls Try.prog 58 #[.agg #[.int .i64 v0, .int .i64 v1, .int .i64 v2], .agg #[.int .i64 b0, .int .i64 b1, .int .i64 b2]] W fun e w' => (∃ r : Int, e = .returned (.int .i64 r) ∧ r < 0) ∧ Below W.heap.size W w') := fun W => (cmpOpen_any v0 v1 v2 b0 b1 b2 W).mono (fun e w' ⟨⟨r, h1, h2⟩, h3⟩ => ⟨⟨r, h1, h2.2 hq⟩, h3⟩)
        have HX := Lib.hid (HFY.out (.inr hq))
        clear HFY HFN hq
        go_wp2_with (go_at_fn 58; refine (hcmp.out _).mono ?_; rintro e w2 ⟨⟨r, rfl, hr⟩, hb2⟩; have hd : decide (r < 0) = true := decide_eq_true hr; have hb3 := hb2.mono (show wr.heap.size + 1 ≤ _ by simp); obtain ⟨q1, q2⟩ := (RC.out _ hb3).out; obtain ⟨c0, c1, c2, -, -, -⟩ := cellsO3 q1; obtain ⟨d0, d1, d2, d3, d4, d5⟩ := cellsO3 q2; have HR3 := RY.out _ hb3; clear hb2 hb3 hr q1 q2)
        go_roundw
        case rel => exact ⟨k + 1, v0, v1, v2, by omega, by congr 1, HR3.out.1, HR3.out.2.1, HX.out, HR3.out.2.2⟩
        case measure => simp only [intOf]; omega
      · have hcmp : Hid (∀ W, Calls Try.prog 58 #[.agg #[.int .i64 v0, .int .i64 v1, .int .i64 v2], .agg #[.int .i64 b0, .int .i64 b1, .int .i64 b2]] W fun e w' => (∃ r : Int, e = .returned (.int .i64 r) ∧ ¬ (r < 0)) ∧ Below W.heap.size W w') := fun W => (cmpOpen_any v0 v1 v2 b0 b1 b2 W).mono (fun e w' ⟨⟨r, h1, h2⟩, h3⟩ => ⟨⟨r, h1, fun h => hq (h2.1 h)⟩, h3⟩)
        have HX := Lib.hid (HFN.out (by omega) hq)
        clear HFY HFN hq
        go_wp2_with (go_at_fn 58; refine (hcmp.out _).mono ?_; rintro e w2 ⟨⟨r, rfl, hr⟩, hb2⟩; have hd : decide (r < 0) = false := decide_eq_false hr; have hb3 := hb2.mono (show wr.heap.size + 1 ≤ _ by simp); have HR3 := RN.out _ hb3; clear hb2 hb3 hr)
        go_roundw
        case rel => exact ⟨k + 1, b0, b1, b2, by omega, by congr 1, HR3.out.1, HR3.out.2.1, HX.out, HR3.out.2.2⟩
        case measure => simp only [intOf]; omega
    · obtain rfl : k = m := by omega
      obtain ⟨y0, y1, y2, y3, y4, y5⟩ := cellsO3 hbx
      obtain ⟨z0, z1, z2, z3, z4, z5⟩ := cellsO3 HX0.out
      have HB9 := Lib.hid (Below.setCell (Below.setCell (Below.setCell HB.out (show w.heap.size ≤ (⟨w.heap.size, 0, none⟩ : Addr).block from Nat.le_refl _) (.int .i64 b0)) (show w.heap.size ≤ (⟨w.heap.size, 1, none⟩ : Addr).block from Nat.le_refl _) (.int .i64 b1)) (show w.heap.size ≤ (⟨w.heap.size, 2, none⟩ : Addr).block from Nat.le_refl _) (.int .i64 b2))
      by_cases e : 0 < k
      · have hkk : decide ((0 : Int) < (k : Int)) = true := decide_eq_true (by omega)
        go_wp2_with fail
        exact bodyPost_ret (v := .tuple #[.agg #[.int .i64 b0, .int .i64 b1, .int .i64 b2], .bool true]) (by simp [results, Try.results56, go_sem, z0, z1, z2]) rfl ⟨⟨b0, b1, b2, by rw [decide_eq_true e], HF.out⟩, HB9.out⟩
      · have hkk : decide ((0 : Int) < (k : Int)) = false := decide_eq_false (by omega)
        go_wp2_with fail
        exact bodyPost_ret (v := .tuple #[.agg #[.int .i64 b0, .int .i64 b1, .int .i64 b2], .bool false]) (by simp [results, Try.results56, go_sem, z0, z1, z2]) rfl ⟨⟨b0, b1, b2, by rw [decide_eq_false e], HF.out⟩, HB9.out⟩

end Go.Proofs.Ytokhkcebdbopcaa
