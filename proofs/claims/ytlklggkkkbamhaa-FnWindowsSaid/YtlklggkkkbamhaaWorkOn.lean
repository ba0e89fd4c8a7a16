/- New belts: the program's workOn, the model's l02Fresh and l02Step. -/
import Derived.Test.YtlklggkkkbamhaaCopy
import Derived.Test.YtlklggkkkbamhaaReach
import Derived.Test.YtlklggkkkbamhaaSmall
import Derived.Test.YtlklggkkkbamhaaRowItem
namespace Go.Proofs.Ytlklggkkkbamhaa
open Go.RowKit

/-- The row of items z, made by the call: below B nothing of it. -/
def ItemsOwn (w : World) (B : Nat) (p : Option Addr) (n c : Nat) (z : Nat → Int) : Prop :=
  w.ownsRow B 32 3 (.slice p n c) n ((List.range (n * 3)).map fun j => .int .i64 (z j))
theorem ItemsOwn.flat {w : World} {B : Nat} {p : Option Addr} {n c : Nat} {z : Nat → Int} (h : ItemsOwn w B p n c z) : ∃ g, FlatAt w B w.heap.size p g 0 (n * 3) (fun j => .int .i64 (z j)) ∧ FreeAt w g 0 (n * 3) :=
  FlatAt.of_own h fun j hj => by rw [List.getElem?_map, List.getElem?_range hj]; rfl
theorem ItemsOwn.below {w w' : World} {B : Nat} {p : Option Addr} {n c : Nat} {z : Nat → Int} (h : ItemsOwn w B p n c z) (hb : Below w.heap.size w w') : ItemsOwn w' B p n c z :=
  h.kept (row := none) ⟨hb.os, hb.tape, hb.output, hb.size, fun k hk _ => hb.block k hk⟩ (by cases hv : (Value.slice p n c).ownBlock <;> simp)

theorem ItemsOwn.capMax {w : World} {B : Nat} {p : Option Addr} {n c : Nat} {z : Nat → Int} (h : ItemsOwn w B p n c z) : c ≤ maxLen := by
  rcases h.2 with ⟨h1, h2⟩ | ⟨g, cap, cur, h1, _, _, _, h4, _⟩
  · injection h1 with _ _ h3; subst h3; unfold maxLen; omega
  · injection h1 with _ _ h3; subst h3; exact h4

set_option maxRecDepth 100000 in
set_option maxHeartbeats 1000000 in
theorem workOn_any (n : Nat) (hn : n ≤ 1048576) (z : Nat → Int) (p : Option Addr) (c g o : Nat) (L G : Int) (H : Bool) (w : World) (h : FlatAt w 0 w.heap.size p g o (n * 3) (fun j => .int .i64 (z j))) :
    Calls Try.prog 34 #[.agg #[.int .i64 L, .int .i64 G, .bool H, .slice p n c]] w fun e w' => ∃ gw p' c', e = .returned (.pointer (some ⟨gw, 0, none⟩)) ∧ n ≤ c' ∧ w.heap.size ≤ gw ∧ WB w' gw L G H (.slice p' n c') ∧ ItemsOwn w' w.heap.size p' n c' z ∧ (Value.slice p' n c').ownBlock ≠ some gw ∧ Below w.heap.size w w' := by
  obtain ⟨i0, hi, hz0, hz1, hz2⟩ := info_parts infoItem
  have HF := Lib.hid (fun W (hb : Below w.heap.size w W) => (h.below hb (Nat.le_refl _)).wide (Nat.zero_le _) (hb.size))
  have c3 := cellsItemI
  clear h
  go_enter Try.func34, Try.ntmps34
  go_wp2_with (at_builtin; refine wpList_copy _ rfl (.tmp 5) (.tmp 7) _ rfl (w.heap.size) 32 i0 _ 3 24 Try.underlying22 hi hz0 hz1 hz2 rfl (by decide) (w.heap.size + 1 + 1) rfl (heap_new _ _ _ (by simp)) (by omega) p n c rfl 0 _ g o (fun j => .int .i64 (z j)) (HF.out _ (by repeat (first | exact Below.refl _ _ | refine Below.alloc ?_ (by simp <;> omega) _))) (fun _ _ => rfl) (by unfold maxLen; omega) (by omega) ?_; intro p' c' w2 hcc hown hgr; have hB2 : w2.heap[w.heap.size + 1]? = some (.cells #[.int .i64 L, .int .i64 G, .bool H, .slice p n c] 64 (0, 0)) := (hgr.block _ (by simp) (by simp)).trans ((heap_old _ _ _ (by simp)).trans (heap_new _ _ _ (by simp))); have k3 := cell_of_row w2 _ 3 _ _ _ hB2; have f3 := frozen_of_row w2 _ 3 _ _ hB2; simp at k3; have hs2 := hgr.size; have HB2 := Lib.hid hB2; have HGR := Lib.hid hgr; clear hB2 hgr)
  go_ret
  have hB3 := blk_set (o := 3) HB2.out (.slice p' n c')
  have hne := own_ne hown HB2.out (by decide)
  refine ⟨w.heap.size + 1, p', c', rfl, hcc, by omega, hB3, hown.kept (grown_set1 _ _ _ _) (.inr hne), hne, ?_⟩
  refine Below.setCell ?_ (by simp <;> omega) _
  refine Below.grown ?_ HGR.out (by simp <;> omega) (by intro k hk; injection hk with hk; omega)
  repeat (first | exact Below.refl _ _ | refine Below.alloc ?_ (by simp <;> omega) _)


set_option maxRecDepth 100000 in
set_option maxHeartbeats 1000000 in
theorem fresh_any (n : Nat) (hn : n ≤ 1048576) (z : Nat → Int) (p : Option Addr) (c g o : Nat) (L G : Int) (H : Bool) (w : World) (h : FlatAt w 0 w.heap.size p g o (n * 3) (fun j => .int .i64 (z j))) :
    Calls Try.prog 37 #[.agg #[.int .i64 L, .int .i64 G, .bool H, .slice p n c]] w fun e w' => ∃ p' c', e = .returned (.agg #[.int .i64 L, .int .i64 G, .bool H, .slice p' n c']) ∧ n ≤ c' ∧ ItemsOwn w' w.heap.size p' n c' z ∧ Below w.heap.size w w' := by
  obtain ⟨i0, hi, hz0, hz1, hz2⟩ := info_parts infoItem
  have HF := Lib.hid (fun W (hb : Below w.heap.size w W) => (h.below hb (Nat.le_refl _)).wide (Nat.zero_le _) (hb.size))
  have c3 := cellsItemI
  clear h
  go_enter Try.func37, Try.ntmps37
  go_wp2_with (at_builtin; refine wpList_copy _ rfl (.tmp 3) (.tmp 5) _ rfl (w.heap.size) 32 i0 _ 3 24 Try.underlying22 hi hz0 hz1 hz2 rfl (by decide) (w.heap.size + 1 + 1) rfl (heap_new _ _ _ (by simp)) (by omega) p n c rfl 0 _ g o (fun j => .int .i64 (z j)) (HF.out _ (by repeat (first | exact Below.refl _ _ | refine Below.alloc ?_ (by simp <;> omega) _))) (fun _ _ => rfl) (by unfold maxLen; omega) (by omega) ?_; intro p' c' w2 hcc hown hgr; have hB0 : w2.heap[w.heap.size]? = some (.cells #[.int .i64 L, .int .i64 G, .bool H, .slice p n c] 24 (0, 0)) := (hgr.block _ (by simp <;> omega) (by simp <;> omega)).trans ((heap_old _ _ _ (by simp <;> omega)).trans ((heap_old _ _ _ (by simp <;> omega)).trans (heap_new _ _ _ (by simp)))); have hB1 : w2.heap[w.heap.size + 1]? = some (.cells #[.int .i64 0, .int .i64 0, .bool false, .slice none 0 0] 24 (0, 0)) := (hgr.block _ (by simp <;> omega) (by simp <;> omega)).trans ((heap_old _ _ _ (by simp <;> omega)).trans (heap_new _ _ _ (by simp))); have k0 := cell_of_row w2 _ 0 _ _ _ hB0; have k1 := cell_of_row w2 _ 1 _ _ _ hB0; have k2 := cell_of_row w2 _ 2 _ _ _ hB0; have k3 := cell_of_row w2 _ 3 _ _ _ hB0; have f3 := frozen_of_row w2 _ 3 _ _ hB0; have r0 := cell_of_row w2 _ 0 _ _ _ hB1; have r1 := cell_of_row w2 _ 1 _ _ _ hB1; have r2 := cell_of_row w2 _ 2 _ _ _ hB1; have r3 := cell_of_row w2 _ 3 _ _ _ hB1; have s0 := frozen_of_row w2 _ 0 _ _ hB1; have s1 := frozen_of_row w2 _ 1 _ _ hB1; have s2 := frozen_of_row w2 _ 2 _ _ hB1; have s3 := frozen_of_row w2 _ 3 _ _ hB1; simp at k0 k1 k2 k3 r0 r1 r2 r3; have hs2 := hgr.size; have HB0 := Lib.hid hB0; have HB1 := Lib.hid hB1; have HGR := Lib.hid hgr; clear hB0 hB1 hgr)
  have ne0 := own_ne hown HB0.out (by decide)
  have ne1 := own_ne hown HB1.out (by decide)
  refine bodyPost_ret (v := .agg #[.int .i64 L, .int .i64 G, .bool H, .slice p' n c']) (by simp [results, Try.results37, go_sem, r0, r1, r2, r3]) rfl ⟨p', c', rfl, hcc, ?_, ?_⟩
  · exact ((((hown.kept (grown_set1 _ _ _ _) (.inr ne0)).kept (grown_set1 _ _ _ _) (.inr ne1)).kept (grown_set1 _ _ _ _) (.inr ne1)).kept (grown_set1 _ _ _ _) (.inr ne1)).kept (grown_set1 _ _ _ _) (.inr ne1)
  · refine Below.setCell (Below.setCell (Below.setCell (Below.setCell (Below.setCell (Below.grown ?_ HGR.out ?_ ?_) ?_ _) ?_ _) ?_ _) ?_ _) ?_ _
    · repeat (first | exact Below.refl _ _ | refine Below.alloc ?_ (by simp <;> omega) _)
    rotate_left
    · intro k hk; injection hk with hk; omega
    all_goals (simp <;> omega)

end Go.Proofs.Ytlklggkkkbamhaa
