/- What the draw of a tag leaves. -/
import Derived.Test.YtopkdkehkdhmgabDoorDraw
import Derived.Test.YtopkdkehkdhmgabDoorTagIn
namespace Go.Proofs.YtopkdkehkdhmgabDoor
open Go.RowKit
set_option linter.unusedVariables false

theorem threeC {w : World} {k : Nat} {x y z : Value} (a b c : Value) (h0 : w.cell? ⟨k, 0, none⟩ = some x) (h1 : w.cell? ⟨k, 1, none⟩ = some y) (h2 : w.cell? ⟨k, 2, none⟩ = some z) :
    (w.setCell ⟨k, 0, none⟩ a).cell? ⟨k, 0, none⟩ = some a ∧ ((w.setCell ⟨k, 0, none⟩ a).setCell ⟨k, 1, none⟩ b).cell? ⟨k, 1, none⟩ = some b ∧ (((w.setCell ⟨k, 0, none⟩ a).setCell ⟨k, 1, none⟩ b).setCell ⟨k, 2, none⟩ c).cell? ⟨k, 2, none⟩ = some c := by
  refine ⟨World.cell?_setCell_same w _ _ h0, World.cell?_setCell_same _ _ _ (by rw [World.cell?_setCell_other w _ _ _ (by simp)]; exact h1), World.cell?_setCell_same _ _ _ (by rw [World.cell?_setCell_other _ _ _ _ (by simp), World.cell?_setCell_other w _ _ _ (by simp)]; exact h2)⟩
/-- Block k holds three numbers. -/
def B3 (w : World) (k : Nat) (a b c : Int) (t : TypeId) : Prop := w.heap[k]? = some (.cells #[.int .i64 a, .int .i64 b, .int .i64 c] t (0, 0))
theorem B3.cells {w : World} {k : Nat} {a b c : Int} {t : TypeId} (h : B3 w k a b c t) : w.cell? ⟨k, 0, none⟩ = some (.int .i64 a) ∧ w.cell? ⟨k, 1, none⟩ = some (.int .i64 b) ∧ w.cell? ⟨k, 2, none⟩ = some (.int .i64 c) ∧ w.frozen? ⟨k, 0, none⟩ = false ∧ w.frozen? ⟨k, 1, none⟩ = false ∧ w.frozen? ⟨k, 2, none⟩ = false := by
  unfold B3 at h
  simp [World.cell?, World.frozen?, h]
theorem B3.lt {w : World} {k : Nat} {a b c : Int} {t : TypeId} (h : B3 w k a b c t) : k < w.heap.size := (Array.getElem?_eq_some_iff.1 h).1
theorem B3.grown {w w' : World} {k g : Nat} {a b c : Int} {t : TypeId} (h : B3 w k a b c t) (hg : w.grownBy w' (some g)) (hne : k ≠ g) : B3 w' k a b c t :=
  (hg.block k h.lt (by intro e; injection e with e; exact hne e)).trans h
theorem B3.alloc {w : World} {k : Nat} {a b c : Int} {t : TypeId} (h : B3 w k a b c t) (o : Obj) : B3 (w.alloc o) k a b c t := (Below.heap_alloc _ _ _ h.lt).trans h
theorem B3.new (w : World) (a b c : Int) (t : TypeId) : B3 (w.alloc (.cells #[.int .i64 a, .int .i64 b, .int .i64 c] t)) w.heap.size a b c t := heap_alloc_new w _
theorem B3.set0 {w : World} {k : Nat} {a b c : Int} {t : TypeId} (h : B3 w k a b c t) (v : Int) : B3 (w.setCell ⟨k, 0, none⟩ (.int .i64 v)) k v b c t := blk_set h _
theorem B3.set1 {w : World} {k : Nat} {a b c : Int} {t : TypeId} (h : B3 w k a b c t) (v : Int) : B3 (w.setCell ⟨k, 1, none⟩ (.int .i64 v)) k a v c t := blk_set h _
theorem B3.set2 {w : World} {k : Nat} {a b c : Int} {t : TypeId} (h : B3 w k a b c t) (v : Int) : B3 (w.setCell ⟨k, 2, none⟩ (.int .i64 v)) k a b v t := blk_set h _
theorem B3.other {w : World} {k : Nat} {a b c : Int} {t : TypeId} (h : B3 w k a b c t) (q : Addr) (v : Value) (hne : k ≠ q.block) : B3 (w.setCell q v) k a b c t := (Below.heap_setCell _ _ _ _ hne).trans h
theorem Cu.set {B n : Nat} {p : Option Addr} {cap gc oc : Nat} {w : World} {g : Nat} (h : Cu B n p cap gc oc w g) (q : Addr) (v : Value) (h1 : g ≠ q.block) (h2 : B ≤ q.block) : Cu B n p cap gc oc (w.setCell q v) g :=
  h.kept (Below.heap_setCell _ _ _ _ h1) (fun k hk => Below.heap_setCell _ _ _ _ (by omega))
theorem grown_new {w w1 : World} {g : Nat} (h : w.grownBy w1 (some g)) (q : Addr) (v : Value) (hq : w.heap.size ≤ q.block) : w.grownBy (w1.setCell q v) (some g) :=
  ⟨h.os, h.tape, h.output, by simpa [World.setCell] using h.size, fun k hk hne => (Below.heap_setCell _ _ _ _ (by omega)).trans (h.block k hk hne)⟩

set_option maxRecDepth 100000 in
set_option maxHeartbeats 2000000 in
/-- A tag that is drawn is valid. -/
theorem tagd_any {B n : Nat} {p : Option Addr} {cap gc oc : Nat} {w : World} {g : Nat} (hn : n ≤ 1048576) (h : Cu B n p cap gc oc w g) :
    Calls Tryd.prog 41 #[.pointer (some ⟨g, 0, none⟩)] w fun e w' => ∃ a b c : Int, tokB a b c = true ∧ e = .returned (.agg #[.int .i64 a, .int .i64 b, .int .i64 c]) ∧ Cu B n p cap gc oc w' g ∧ w.grownBy w' (some g) := by
  have hgl := h.lt
  have hgr : w.heap.size ≠ g := by omega
  have hBr : B ≤ w.heap.size := by have := h.base; omega
  have hA : Below w.heap.size w (w.alloc (.cells #[.int .i64 0, .int .i64 0, .int .i64 0] 36)) := (Below.refl _ _).alloc (Nat.le_refl _) _
  have HC0 := Lib.hid (h.below hA)
  have HR0 := Lib.hid (B3.new w 0 0 0 36)
  have HG0 := Lib.hid (World.grownBy_alloc w (.cells #[.int .i64 0, .int .i64 0, .int .i64 0] 36) (some g))
  clear h hA
  go_enter Tryd.func41, Tryd.ntmps41
  go_wp2_with fail
  refine (below_at hn HC0.out 10 _ rfl (by omega) (by omega)).mono ?_
  rintro e w1 ⟨a, ha, rfl, hc1, hg1⟩
  have HC1 := Lib.hid hc1
  have HR1 := Lib.hid (HR0.out.grown hg1 hgr)
  have HG1 := Lib.hid (HG0.out.trans hg1)
  clear hc1 hg1
  go_wp2_with fail
  refine (below_at hn HC1.out 999 _ rfl (by omega) (by omega)).mono ?_
  rintro e w2 ⟨b, hb, rfl, hc2, hg2⟩
  have HC2 := Lib.hid hc2
  have HR2 := Lib.hid (HR1.out.grown hg2 hgr)
  have HG2 := Lib.hid (HG1.out.trans hg2)
  clear hc2 hg2
  go_wp2_with fail
  refine (below_at hn HC2.out 1000000 _ rfl (by omega) (by omega)).mono ?_
  rintro e w3 ⟨c, hc, rfl, hc3, hg3⟩
  have HC3 := Lib.hid hc3
  have HR3 := Lib.hid (HR2.out.grown hg3 hgr)
  have HG3 := Lib.hid (HG2.out.trans hg3)
  clear hc3 hg3
  have hg3l := HC3.out.lt
  have hr3l := HR3.out.lt
  have hgt : w3.heap.size ≠ g := by omega
  have hBt : B ≤ w3.heap.size := by have := HC3.out.base; omega
  have hws : w.heap.size ≤ w3.heap.size := HG3.out.size
  go_wp2_with fail
  have HC4 := Lib.hid (HC3.out.below ((Below.refl _ w3).alloc (Nat.le_refl _) (.cells #[.int .i64 (a : Int), .int .i64 (1 + (b : Int)), .int .i64 (c : Int)] 36)))
  have HR4 := Lib.hid (HR3.out.alloc (.cells #[.int .i64 (a : Int), .int .i64 (1 + (b : Int)), .int .i64 (c : Int)] 36))
  have HT4 := Lib.hid (B3.new w3 (a : Int) (1 + (b : Int)) (c : Int) 36)
  have HG4 := Lib.hid (HG3.out.trans (World.grownBy_alloc w3 (.cells #[.int .i64 (a : Int), .int .i64 (1 + (b : Int)), .int .i64 (c : Int)] 36) (some g)))
  refine (once_at hn HC4.out 8 _ rfl (by omega) (by omega)).mono ?_
  rintro e w5 ⟨b1, rfl, hc5, hg5⟩
  have HC5 := Lib.hid hc5
  have HR5 := Lib.hid (HR4.out.grown hg5 hgr)
  have HT5 := Lib.hid (HT4.out.grown hg5 hgt)
  have HG5 := Lib.hid (HG4.out.trans hg5)
  clear hc5 hg5 HC4 HR4 HT4 HG4
  cases b1
  · go_wp2_with fail
    refine (once_at hn HC5.out 12 _ rfl (by omega) (by omega)).mono ?_
    rintro e wA ⟨b2, rfl, hcA, hgA⟩
    have HCA := Lib.hid hcA
    have HRA := Lib.hid (HR5.out.grown hgA hgr)
    have HTA := Lib.hid (HT5.out.grown hgA hgt)
    have HGA := Lib.hid (HG5.out.trans hgA)
    clear hcA hgA
    cases b2
    · obtain ⟨y0, y1, y2, -, -, -⟩ := HTA.out.cells
      obtain ⟨q0, q1, q2, u0, u1, u2⟩ := HRA.out.cells
      obtain ⟨z0, z1, z2⟩ := threeC (w := wA) (.int .i64 (a : Int)) (.int .i64 (1 + (b : Int))) (.int .i64 (c : Int)) q0 q1 q2
      go_wp2_with fail
      refine bodyPost_ret (v := .agg #[.int .i64 (a : Int), .int .i64 (1 + (b : Int)), .int .i64 (c : Int)]) (by simp [results, Tryd.results41, go_sem, *]) rfl ⟨(a : Int), (1 + (b : Int)), (c : Int), tokB_iff.2 (by omega), rfl, ?_, ?_⟩
      · exact ((HCA.out.set _ _ hgr.symm hBr).set _ _ hgr.symm hBr).set _ _ hgr.symm hBr
      · exact grown_new (grown_new (grown_new HGA.out ⟨w.heap.size, 0, none⟩ _ (Nat.le_refl _)) ⟨w.heap.size, 1, none⟩ _ (Nat.le_refl _)) ⟨w.heap.size, 2, none⟩ _ (Nat.le_refl _)

    · go_wp2_with fail
      refine (pickNew hn HCA.out [1, 7, 999] 3 3 rfl (by decide) (by decide) #[.int .i64 1, .int .i64 7, .int .i64 999] rfl 3).mono ?_
      rintro e wB ⟨v, hv, rfl, hcB, hgB⟩
      have hvb : 1 ≤ v ∧ v ≤ 999 := by simp at hv; omega
      have HTB0 := HTA.out.grown hgB hgt
      have HRB0 := HRA.out.grown hgB hgr
      have HGB0 := HGA.out.trans hgB
      obtain ⟨-, t1, -, -, f1, -⟩ := HTB0.cells
      obtain ⟨wD, hwD⟩ : ∃ wD, wD = wB.setCell ⟨w3.heap.size, 1, none⟩ (.int .i64 v) := ⟨_, rfl⟩
      have HCD := Lib.hid (show Cu B n p cap gc oc wD g by rw [hwD]; exact hcB.set _ _ hgt.symm hBt)
      have HRD := Lib.hid (show B3 wD w.heap.size 0 0 0 36 by rw [hwD]; exact HRB0.other _ _ (by show w.heap.size ≠ w3.heap.size; omega))
      have HTD := Lib.hid (show B3 wD w3.heap.size (a : Int) v (c : Int) 36 by rw [hwD]; exact HTB0.set1 v)
      have HGD := Lib.hid (show w.grownBy wD (some g) by rw [hwD]; exact grown_new HGB0 _ _ hws)
      have HWD := Lib.hid hwD
      clear hv hcB hgB HTB0 HRB0 HGB0 hwD
      obtain ⟨y0, y1, y2, -, -, -⟩ := HTD.out.cells
      obtain ⟨q0, q1, q2, u0, u1, u2⟩ := HRD.out.cells
      obtain ⟨z0, z1, z2⟩ := threeC (w := wD) (.int .i64 (a : Int)) (.int .i64 v) (.int .i64 (c : Int)) q0 q1 q2
      rw [HWD.out] at y0 y1 y2 q0 q1 q2 u0 u1 u2 z0 z1 z2
      go_wp2_with fail
      refine bodyPost_ret (v := .agg #[.int .i64 (a : Int), .int .i64 v, .int .i64 (c : Int)]) (by simp [results, Tryd.results41, go_sem, *]) rfl ⟨(a : Int), v, (c : Int), tokB_iff.2 (by omega), rfl, ?_, ?_⟩
      · have := ((HCD.out.set ⟨w.heap.size, 0, none⟩ (.int .i64 (a : Int)) hgr.symm hBr).set ⟨w.heap.size, 1, none⟩ (.int .i64 v) hgr.symm hBr).set ⟨w.heap.size, 2, none⟩ (.int .i64 (c : Int)) hgr.symm hBr
        rw [HWD.out] at this
        exact this
      · have := grown_new (grown_new (grown_new HGD.out ⟨w.heap.size, 0, none⟩ (.int .i64 (a : Int)) (Nat.le_refl _)) ⟨w.heap.size, 1, none⟩ (.int .i64 v) (Nat.le_refl _)) ⟨w.heap.size, 2, none⟩ (.int .i64 (c : Int)) (Nat.le_refl _)
        rw [HWD.out] at this
        exact this
  · go_wp2_with fail
    refine (pickNew hn HC5.out [0, 1, 999999] 3 3 rfl (by decide) (by decide) #[.int .i64 0, .int .i64 1, .int .i64 999999] rfl 3).mono ?_
    rintro e w6 ⟨s, hs, rfl, hc6, hg6⟩
    have hsb : 0 ≤ s ∧ s ≤ 999999 := by simp at hs; omega
    have HT60 := HT5.out.grown hg6 hgt
    have HR60 := HR5.out.grown hg6 hgr
    have HG60 := HG5.out.trans hg6
    obtain ⟨-, -, t2, -, -, f2⟩ := HT60.cells
    have HC7 := Lib.hid (hc6.set ⟨w3.heap.size, 2, none⟩ (.int .i64 s) hgt.symm hBt)
    have HR7 := Lib.hid (HR60.other ⟨w3.heap.size, 2, none⟩ (.int .i64 s) (by show w.heap.size ≠ w3.heap.size; omega))
    have HT7 := Lib.hid (HT60.set2 s)
    have HG7 := Lib.hid (grown_new HG60 ⟨w3.heap.size, 2, none⟩ (.int .i64 s) hws)
    clear hs hc6 hg6 HT60 HR60 HG60
    go_wp2_with fail
    refine (once_at hn HC7.out 12 _ rfl (by omega) (by omega)).mono ?_
    rintro e wA ⟨b2, rfl, hcA, hgA⟩
    have HCA := Lib.hid hcA
    have HRA := Lib.hid (HR7.out.grown hgA hgr)
    have HTA := Lib.hid (HT7.out.grown hgA hgt)
    have HGA := Lib.hid (HG7.out.trans hgA)
    clear hcA hgA
    cases b2
    · obtain ⟨y0, y1, y2, -, -, -⟩ := HTA.out.cells
      obtain ⟨q0, q1, q2, u0, u1, u2⟩ := HRA.out.cells
      obtain ⟨z0, z1, z2⟩ := threeC (w := wA) (.int .i64 (a : Int)) (.int .i64 (1 + (b : Int))) (.int .i64 s) q0 q1 q2
      go_wp2_with fail
      refine bodyPost_ret (v := .agg #[.int .i64 (a : Int), .int .i64 (1 + (b : Int)), .int .i64 s]) (by simp [results, Tryd.results41, go_sem, *]) rfl ⟨(a : Int), (1 + (b : Int)), s, tokB_iff.2 (by omega), rfl, ?_, ?_⟩
      · exact ((HCA.out.set _ _ hgr.symm hBr).set _ _ hgr.symm hBr).set _ _ hgr.symm hBr
      · exact grown_new (grown_new (grown_new HGA.out ⟨w.heap.size, 0, none⟩ _ (Nat.le_refl _)) ⟨w.heap.size, 1, none⟩ _ (Nat.le_refl _)) ⟨w.heap.size, 2, none⟩ _ (Nat.le_refl _)

    · go_wp2_with fail
      refine (pickNew hn HCA.out [1, 7, 999] 3 3 rfl (by decide) (by decide) #[.int .i64 1, .int .i64 7, .int .i64 999] rfl 3).mono ?_
      rintro e wB ⟨v, hv, rfl, hcB, hgB⟩
      have hvb : 1 ≤ v ∧ v ≤ 999 := by simp at hv; omega
      have HTB0 := HTA.out.grown hgB hgt
      have HRB0 := HRA.out.grown hgB hgr
      have HGB0 := HGA.out.trans hgB
      obtain ⟨-, t1, -, -, f1, -⟩ := HTB0.cells
      obtain ⟨wD, hwD⟩ : ∃ wD, wD = wB.setCell ⟨w3.heap.size, 1, none⟩ (.int .i64 v) := ⟨_, rfl⟩
      have HCD := Lib.hid (show Cu B n p cap gc oc wD g by rw [hwD]; exact hcB.set _ _ hgt.symm hBt)
      have HRD := Lib.hid (show B3 wD w.heap.size 0 0 0 36 by rw [hwD]; exact HRB0.other _ _ (by show w.heap.size ≠ w3.heap.size; omega))
      have HTD := Lib.hid (show B3 wD w3.heap.size (a : Int) v s 36 by rw [hwD]; exact HTB0.set1 v)
      have HGD := Lib.hid (show w.grownBy wD (some g) by rw [hwD]; exact grown_new HGB0 _ _ hws)
      have HWD := Lib.hid hwD
      clear hv hcB hgB HTB0 HRB0 HGB0 hwD
      obtain ⟨y0, y1, y2, -, -, -⟩ := HTD.out.cells
      obtain ⟨q0, q1, q2, u0, u1, u2⟩ := HRD.out.cells
      obtain ⟨z0, z1, z2⟩ := threeC (w := wD) (.int .i64 (a : Int)) (.int .i64 v) (.int .i64 s) q0 q1 q2
      rw [HWD.out] at y0 y1 y2 q0 q1 q2 u0 u1 u2 z0 z1 z2
      go_wp2_with fail
      refine bodyPost_ret (v := .agg #[.int .i64 (a : Int), .int .i64 v, .int .i64 s]) (by simp [results, Tryd.results41, go_sem, *]) rfl ⟨(a : Int), v, s, tokB_iff.2 (by omega), rfl, ?_, ?_⟩
      · have := ((HCD.out.set ⟨w.heap.size, 0, none⟩ (.int .i64 (a : Int)) hgr.symm hBr).set ⟨w.heap.size, 1, none⟩ (.int .i64 v) hgr.symm hBr).set ⟨w.heap.size, 2, none⟩ (.int .i64 s) hgr.symm hBr
        rw [HWD.out] at this
        exact this
      · have := grown_new (grown_new (grown_new HGD.out ⟨w.heap.size, 0, none⟩ (.int .i64 (a : Int)) (Nat.le_refl _)) ⟨w.heap.size, 1, none⟩ (.int .i64 v) (Nat.le_refl _)) ⟨w.heap.size, 2, none⟩ (.int .i64 s) (Nat.le_refl _)
        rw [HWD.out] at this
        exact this

end Go.Proofs.YtopkdkehkdhmgabDoor
