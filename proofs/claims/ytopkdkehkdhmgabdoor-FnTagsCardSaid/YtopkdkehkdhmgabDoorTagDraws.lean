/- What the draws of a tag, of any tag, and of a text near a tag hand out. -/
import Derived.Test.YtopkdkehkdhmgabDoorAnyTag
import Derived.Test.YtopkdkehkdhmgabDoorBlur
namespace Go.Proofs.YtopkdkehkdhmgabDoor
open Go.RowKit
set_option linter.unusedVariables false

set_option maxHeartbeats 1000000 in
theorem drawTag_any {B n : Nat} {p : Option Addr} {cap gc oc : Nat} {w : World} (hn : n ≤ 1048576) (hB : B ≤ w.heap.size) (hC : Code B n w p gc oc) :
    Calls Tryd.prog 18 #[.slice p n cap] w fun e w' => ∃ a b c : Int, tokB a b c = true ∧ e = .returned (.agg #[.int .i64 a, .int .i64 b, .int .i64 c]) ∧ Below w.heap.size w w' := by
  have H := Lib.hid (show Code B n (w.alloc (.cells #[.int .i64 0, .int .i64 0, .int .i64 0] 36)) p gc oc from ⟨hC.1, fun j hj => by
    obtain ⟨x, hx, hc⟩ := hC.2 j hj
    exact ⟨x, hx, (((Below.refl w.heap.size w).alloc (Nat.le_refl _) _).cell (p := ⟨gc, oc + j, none⟩) (by have := (hC.1 (by omega)).2; show gc < _; omega)).trans hc⟩⟩)
  have HR0 := Lib.hid (B3.new w 0 0 0 36)
  clear hC
  go_enter Tryd.func18, Tryd.ntmps18
  go_wp2_with fail
  refine (new_any (cap := cap) hn (by simp; omega) H.out).mono ?_
  rintro e w1 ⟨g, rfl, hc1, hb1, hg1⟩
  have hb1' : Below (w.heap.size + 1) (w.alloc (.cells #[.int .i64 0, .int .i64 0, .int .i64 0] 36)) w1 := hb1.mono (by simp)
  have HR1 := Lib.hid (show B3 w1 w.heap.size 0 0 0 36 from (hb1'.block _ (Nat.lt_succ_self _)).trans HR0.out)
  have hgg : w.heap.size + 1 ≤ g := by simpa using hg1
  have HB1 := Lib.hid hb1'
  have HC1 := Lib.hid hc1
  clear hb1 hb1' hc1 hg1
  go_wp2_with fail
  refine (tagd_any hn HC1.out).mono ?_
  rintro e w2 ⟨a, b, c, ht, rfl, -, hg2⟩
  have HR2 := Lib.hid (HR1.out.grown hg2 (by omega))
  have HB2 := Lib.hid (HB1.out.trans (⟨hg2.os, hg2.tape, hg2.output, hg2.size, fun k hk => hg2.block k (by have := HR1.out.lt; omega) (by intro e; injection e with e; omega)⟩ : Below (w.heap.size + 1) w1 w2))
  clear hg2
  obtain ⟨q0, q1, q2, u0, u1, u2⟩ := HR2.out.cells
  obtain ⟨z0, z1, z2⟩ := threeC (w := w2) (.int .i64 a) (.int .i64 b) (.int .i64 c) q0 q1 q2
  go_wp2_with fail
  refine bodyPost_ret (v := .agg #[.int .i64 a, .int .i64 b, .int .i64 c]) (by simp [results, Tryd.results18, go_sem, *]) rfl ⟨a, b, c, ht, rfl, ?_⟩
  exact ((((Below.refl _ w).alloc (Nat.le_refl _) _).trans (HB2.out.mono (by omega))).setCell (Nat.le_refl _) _ |>.setCell (Nat.le_refl _) _).setCell (Nat.le_refl _) _

set_option maxHeartbeats 1000000 in
theorem drawFmt_any {B n : Nat} {p : Option Addr} {cap gc oc : Nat} {w : World} (hn : n ≤ 1048576) (hB : B ≤ w.heap.size) (hC : Code B n w p gc oc) :
    Calls Tryd.prog 26 #[.slice p n cap] w fun e w' => ∃ a b c : Int, e = .returned (.agg #[.int .i64 a, .int .i64 b, .int .i64 c]) ∧ Below w.heap.size w w' := by
  have H := Lib.hid (show Code B n (w.alloc (.cells #[.int .i64 0, .int .i64 0, .int .i64 0] 36)) p gc oc from ⟨hC.1, fun j hj => by
    obtain ⟨x, hx, hc⟩ := hC.2 j hj
    exact ⟨x, hx, (((Below.refl w.heap.size w).alloc (Nat.le_refl _) _).cell (p := ⟨gc, oc + j, none⟩) (by have := (hC.1 (by omega)).2; show gc < _; omega)).trans hc⟩⟩)
  have HR0 := Lib.hid (B3.new w 0 0 0 36)
  clear hC
  go_enter Tryd.func26, Tryd.ntmps26
  go_wp2_with fail
  refine (new_any (cap := cap) hn (by simp; omega) H.out).mono ?_
  rintro e w1 ⟨g, rfl, hc1, hb1, hg1⟩
  have hb1' : Below (w.heap.size + 1) (w.alloc (.cells #[.int .i64 0, .int .i64 0, .int .i64 0] 36)) w1 := hb1.mono (by simp)
  have HR1 := Lib.hid (show B3 w1 w.heap.size 0 0 0 36 from (hb1'.block _ (Nat.lt_succ_self _)).trans HR0.out)
  have hgg : w.heap.size + 1 ≤ g := by simpa using hg1
  have HB1 := Lib.hid hb1'
  have HC1 := Lib.hid hc1
  clear hb1 hb1' hc1 hg1
  go_wp2_with fail
  refine (anytag_any hn HC1.out).mono ?_
  rintro e w2 ⟨a, b, c, rfl, -, hg2⟩
  have HR2 := Lib.hid (HR1.out.grown hg2 (by omega))
  have HB2 := Lib.hid (HB1.out.trans (⟨hg2.os, hg2.tape, hg2.output, hg2.size, fun k hk => hg2.block k (by have := HR1.out.lt; omega) (by intro e; injection e with e; omega)⟩ : Below (w.heap.size + 1) w1 w2))
  clear hg2
  obtain ⟨q0, q1, q2, u0, u1, u2⟩ := HR2.out.cells
  obtain ⟨z0, z1, z2⟩ := threeC (w := w2) (.int .i64 a) (.int .i64 b) (.int .i64 c) q0 q1 q2
  go_wp2_with fail
  refine bodyPost_ret (v := .agg #[.int .i64 a, .int .i64 b, .int .i64 c]) (by simp [results, Tryd.results26, go_sem, *]) rfl ⟨a, b, c, rfl, ?_⟩
  exact ((((Below.refl _ w).alloc (Nat.le_refl _) _).trans (HB2.out.mono (by omega))).setCell (Nat.le_refl _) _ |>.setCell (Nat.le_refl _) _).setCell (Nat.le_refl _) _

set_option maxHeartbeats 1000000 in
theorem drawPT_any {B n : Nat} {p : Option Addr} {cap gc oc : Nat} {w : World} (hn : n ≤ 1048576) (hB : B ≤ w.heap.size) (hC : Code B n w p gc oc) :
    Calls Tryd.prog 27 #[.slice p n cap] w fun e w' => ∃ s : ByteArray, s.size ≤ 13 ∧ e = .returned (.string s) ∧ Below w.heap.size w w' := by
  have H := Lib.hid hC
  clear hC
  go_enter Tryd.func27, Tryd.ntmps27
  go_wp2_with fail
  refine (new_any (cap := cap) hn hB H.out).mono ?_
  rintro e w1 ⟨g, rfl, hc1, hb1, hg1⟩
  have HB1 := Lib.hid hb1
  have HC1 := Lib.hid hc1
  clear hb1 hc1
  go_wp2_with fail
  refine (blur_any hn HC1.out).mono ?_
  rintro e w2 ⟨s, hs, rfl, -, hg2⟩
  have HB2 := Lib.hid (HB1.out.trans (⟨hg2.os, hg2.tape, hg2.output, hg2.size, fun k hk => hg2.block k (by have := HB1.out.size; omega) (by intro e; injection e with e; omega)⟩ : Below w.heap.size w1 w2))
  clear hg2
  go_wp2_with fail
  go_ret
  exact ⟨s, hs, rfl, HB2.out⟩

end Go.Proofs.YtopkdkehkdhmgabDoor
