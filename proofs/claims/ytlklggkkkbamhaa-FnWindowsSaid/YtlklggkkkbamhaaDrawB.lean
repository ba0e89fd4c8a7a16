/- What DrawBelt hands out. -/
import Derived.Test.YtlklggkkkbamhaaDrawBelt
import Derived.Test.YtlklggkkkbamhaaDrawPl
namespace Go.Proofs.Ytlklggkkkbamhaa
open Go.RowKit
set_option linter.unusedVariables false

set_option maxRecDepth 100000 in
set_option maxHeartbeats 4000000 in
theorem DrawBelt_any {n : Nat} {p : Option Addr} {cap gc oc : Nat} {w0 w : World} (hn : n ≤ 1048576) (hb0 : Below w0.heap.size w0 w) (hC : Code w0.heap.size n w0 p gc oc) :
    Calls Try.prog 15 #[.slice p n cap] w fun e w' => ∃ (L G : Int) (H : Bool) (q : Nat) (po : Option Addr) (co : Nat) (z : Nat → Int), e = .returned (.agg #[.int .i64 L, .int .i64 G, .bool H, .slice po q co]) ∧ q ≤ 6 ∧ OkP L G q z ∧ (5 ≤ L ∧ L ≤ 64) ∧ Rd w' (.slice po q co) q (q * 3) z ∧ Below w.heap.size w w' := by
  have hsw : w0.heap.size ≤ w.heap.size := hb0.size
  have HC := Lib.hid (hC.laterP hb0 (Nat.le_refl _))
  clear hC hb0
  go_enter Try.func15, Try.ntmps15
  go_wp2_with fail
  obtain ⟨w1, hw1⟩ : ∃ xx, xx = w.alloc (.cells #[.int .i64 0, .int .i64 0, .bool false, .slice none 0 0] 24) := ⟨_, rfl⟩
  have hb1 : Below w.heap.size w w1 := by rw [hw1]; exact (Below.refl _ _).alloc (Nat.le_refl _) _
  have R1 : Hid (Bk w1 w.heap.size 0 0 false (.slice none 0 0)) := by rw [hw1]; exact heap_new _ _ _ rfl
  have hs1 : w.heap.size + 1 = w1.heap.size := by rw [hw1]; simp
  rw [← hw1]
  clear hw1
  have HB1 := Lib.hid hb1
  have HC1 := Lib.hid (HC.out.laterP hb1 (by omega))
  clear hb1
  refine (new_any hn (by omega) HC1.out).mono ?_
  rintro e w2 ⟨g, rfl, hc2, hb2, hg2⟩
  have C2 := Lib.hid hc2
  have R2 := Lib.hid (show Bk w2 w.heap.size 0 0 false (.slice none 0 0) from (hb2.block w.heap.size (by omega)).trans R1.out)
  have HB2 := Lib.hid (HB1.out.trans (hb2.mono (by omega)))
  have hs2 : w1.heap.size ≤ w2.heap.size := hb2.size
  clear hc2 hb2
  go_wp2_with fail
  refine (l02Belt_any hn C2.out).mono ?_
  rintro e w3 ⟨L, G, H, q, po, co, l, rfl, hq, hown, hc3, hg3, f, hD⟩
  have R3 := Lib.hid (show Bk w3 w.heap.size 0 0 false (.slice none 0 0) from R2.out.grown hg3 (by omega))
  have HB3 := Lib.hid (HB2.out.trans (⟨hg3.os, hg3.tape, hg3.output, hg3.size, fun k hk => hg3.block k (by have := HB2.out.size; omega) (by intro e; injection e with e; omega)⟩ : Below w.heap.size w2 w3))
  have HO := Lib.hid hown
  have HP := Lib.hid (hD.okP hq)
  have HL := Lib.hid hD.2.1
  have hlen := Lib.hid hD.1
  clear hown hc3 hg3 hD
  obtain ⟨x0, x1, x2, x3, f0, f1, f2, f3⟩ := R3.out.cells
  go_wp2_with fail
  refine bodyPost_ret (v := .agg #[.int .i64 L, .int .i64 G, .bool H, .slice po q co]) (by simp [results, Try.results15, go_sem, x0, x1, x2, x3]) rfl ⟨L, G, H, q, po, co, fun j => l.getD j 0, rfl, hq, HP.out, HL.out, ?_, ?_⟩
  · obtain ⟨g1, h1, -⟩ := FlatAt.of_own (f := fun j => .int .i64 (l.getD j 0)) HO.out (fun j hj => by
      rw [List.getElem?_map, List.getElem?_eq_getElem (show j < l.length by have := hlen.out; omega), List.getD_eq_getElem?_getD, List.getElem?_eq_getElem (show j < l.length by have := hlen.out; omega)]; rfl)
    have hqc : q ≤ co := by
      rcases HO.out.2 with ⟨h2, h3⟩ | ⟨g4, c4, cur, h2, -, -, h3, -⟩
      · omega
      · injection h2 with _ _ h2; omega
    refine ⟨po, co, g1, 0, rfl, hqc, ?_⟩
    have h5 : ∀ (a : Addr) (u : Value) (W : World), a.block = w.heap.size → FlatAt W w2.heap.size w3.heap.size po g1 0 (q * 3) (fun j => .int .i64 (l.getD j 0)) → FlatAt (W.setCell a u) w2.heap.size w3.heap.size po g1 0 (q * 3) (fun j => .int .i64 (l.getD j 0)) := fun a u W ha hW => hW.far u (.inl (by omega))
    exact (h5 _ _ _ rfl (h5 _ _ _ rfl (h5 _ _ _ rfl (h5 _ _ _ rfl h1)))).wide (Nat.zero_le _) (by simp [World.setCell])
  · exact (((HB3.out.setCell (Nat.le_refl _) _).setCell (Nat.le_refl _) _).setCell (Nat.le_refl _) _).setCell (Nat.le_refl _) _

end Go.Proofs.Ytlklggkkkbamhaa
