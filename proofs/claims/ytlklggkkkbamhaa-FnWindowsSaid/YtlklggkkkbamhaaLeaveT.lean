/- What the model's Leave returns: the item leaves. -/
import Derived.Test.YtlklggkkkbamhaaLeave
import Derived.Test.YtlklggkkkbamhaaStepS
import Derived.Test.YtlklggkkkbamhaaLater
namespace Go.Proofs.Ytlklggkkkbamhaa
open Go.RowKit

theorem below_refl' (w : World) : Below w.heap.size w w := Below.refl _ _
set_option maxRecDepth 100000 in
set_option maxHeartbeats 4000000 in
theorem sLeave_yes (m : Nat) (hn : m + 1 ≤ 1048576) (z : Nat → Int) (p : Option Addr) (c g o : Nat) (L G : Int) (w : World) (h : FlatAt w 0 w.heap.size p g o ((m + 1) * 3) (fun j => .int .i64 (z j))) (hk : okB L G (m + 1) z = true) (hz : L ≤ z 1) :
    Calls Try.prog 28 #[.agg #[.int .i64 L, .int .i64 G, .bool false, .slice p (m + 1) c]] w fun e w' => ∃ p' c', e = .returned (.tuple #[.agg #[.int .i64 L, .int .i64 G, .bool false, .slice p' m c'], .int .i64 (z 0), .bool true]) ∧ m ≤ c' ∧ RowNew w' w.heap.size p' (m * 3) (shZ z) ∧ Below w.heap.size w w' := by
  have hfr := Lib.hid (fun W (hb : Below w.heap.size w W) => fresh_any (m + 1) hn z p c g o L G false W ((h.below hb (Nat.le_refl _)).wide (Nat.zero_le _) hb.size))
  have hbo := Lib.hid (fun (W : World) (B : Nat) (p' : Option Addr) (c' : Nat) (hr : RowNew W B p' ((m + 1) * 3) z) => (by
    obtain ⟨g', o', h1, h2⟩ := hr
    exact sBeltOk_any (m + 1) (by unfold maxLen; omega) z p' c' g' o' L G false W (h1.wide (Nat.zero_le _) (Nat.le_refl _)) : Calls Try.prog 8 #[.agg #[.int .i64 L, .int .i64 G, .bool false, .slice p' (m + 1) c']] W fun e w' => e = .returned (.bool (okB L G (m + 1) z)) ∧ Below W.heap.size W w'))
  have c3 := cellsItemS
  clear h
  simp only [hk] at hbo
  clear hk
  obtain ⟨i0, hi, iz0, iz1, iz2⟩ := info_parts infoItem
  obtain ⟨u, hu⟩ : ∃ u, u = z 0 := ⟨_, rfl⟩
  rw [← hu]
  have HU := Lib.hid hu
  have hn1 : (((m + 1 : Nat) : Int) == 0) = false := by simp; omega
  have hn2 : ((m : Int) + 1 == 0) = false := by simp; omega
  have hpos : (0 : Int) < ((m + 1 : Nat) : Int) := by omega
  have h1n : (1 : Int) ≤ ((m + 1 : Nat) : Int) := by omega
  clear hu
  go_enter Try.func28, Try.ntmps28
  go_wp2_with (go_at_call 37; refine (hfr.out _ (by repeat (first | exact Below.refl _ _ | refine Below.alloc ?_ (by simp <;> omega) _ | refine Below.setCell ?_ (by simp <;> omega) _ | refine Below.drew ?_))).mono ?_; rintro e w2 ⟨p', c', rfl, hcc, hown, hb2⟩; have hx2 : w2.heap[w.heap.size]? = some (.cells #[.int .i64 L, .int .i64 G, .bool false, .slice p (m + 1) c] 24 (0, 0)) := (hb2.block w.heap.size (by simp <;> omega)).trans ((heap_old _ _ _ (by simp)).trans (heap_new _ _ _ rfl)); obtain ⟨x0, x1, x2, x3, x4, x5, x6, x7⟩ := cells4 hx2; have hz2 : w.heap.size + 1 + 1 ≤ w2.heap.size := (by have := hb2.size; simpa using this); have HX2 := Lib.hid hx2; have hy2 : w2.heap[w.heap.size + 1]? = some (.cells #[.int .i64 0, .int .i64 0, .bool false, .slice none 0 0] 24 (0, 0)) := (hb2.block (w.heap.size + 1) (by simp <;> omega)).trans (heap_new _ _ _ (by simp)); have HY2 := Lib.hid hy2; clear hy2; have HB2 := Lib.hid hb2; clear hx2 hb2)
  obtain ⟨g', f1, f2⟩ := hown.flat
  obtain ⟨wa, hwa⟩ : ∃ wa, wa = ((((w2.setCell ⟨w.heap.size, 0, none⟩ (.int .i64 L)).setCell ⟨w.heap.size, 1, none⟩ (.int .i64 G)).setCell ⟨w.heap.size, 2, none⟩ (.bool false)).setCell ⟨w.heap.size, 3, none⟩ (.slice p' (m + 1) c')) := ⟨_, rfl⟩
  have hxa : wa.heap[w.heap.size]? = some (.cells #[.int .i64 L, .int .i64 G, .bool false, .slice p' (m + 1) c'] 24 (0, 0)) := by rw [hwa]; exact blk_set (blk_set (blk_set (blk_set HX2.out _) _) _) _
  have hya : wa.heap[w.heap.size + 1]? = some (.cells #[.int .i64 0, .int .i64 0, .bool false, .slice none 0 0] 24 (0, 0)) := by rw [hwa]; exact (Below.heap_setCell _ _ _ _ (by simp)).trans ((Below.heap_setCell _ _ _ _ (by simp)).trans ((Below.heap_setCell _ _ _ _ (by simp)).trans ((Below.heap_setCell _ _ _ _ (by simp)).trans HY2.out)))
  have hsa : wa.heap.size = w2.heap.size := by rw [hwa]; simp [World.setCell]
  have f1' := f1.wide (show w.heap.size + 1 + 1 ≤ _ by simp) (Nat.le_refl _)
  have ra : RowNew wa (w.heap.size + 1 + 1) p' ((m + 1) * 3) z := by rw [hwa]; exact ((((RowNew.of_flat (Nat.le_refl _) (Nat.le_refl _) (h1 := f1') (h2 := f2)).far _ (by simp <;> omega)).far _ (by simp <;> omega)).far _ (by simp <;> omega)).far _ (by simp <;> omega)
  have hba : Below w.heap.size w wa := by rw [hwa]; exact ((((below_via HB2.out (by repeat (first | exact Below.refl _ _ | refine Below.alloc ?_ (by simp <;> omega) _ | refine Below.setCell ?_ (by simp <;> omega) _ | refine Below.drew ?_)) (by simp <;> omega)).setCell (by simp) _).setCell (by simp) _).setCell (by simp) _).setCell (by simp) _
  have HWA := Lib.hid hwa
  clear hwa f1 f1' f2 hown x0 x1 x2 x3 x4 x5 x6 x7 HX2 HY2 HB2
  rw [← HWA.out]
  have XA := Lib.hid hxa
  have YA := Lib.hid hya
  have RA := Lib.hid ra
  have BA := Lib.hid hba
  clear hxa hya ra hba
  obtain ⟨x0, x1, x2, x3, x4, x5, x6, x7⟩ := cells4 XA.out
  have l0 := Later.cell x0
  have l1 := Later.cell x1
  have l2 := Later.cell x2
  have l3 := Later.cell x3
  have hcl := Lib.hid (fun (p : Later wa) => Calls.later_of (hbo.out p.wd _ p' c' (RA.out.below p.h)))
  obtain ⟨g1, o1, r1, r2⟩ := RA.out.row
  obtain ⟨pe, hlo1, hg1⟩ := r1.1 (by omega)
  subst pe
  have a1 : wa.cell? ⟨g1, o1 + 1, none⟩ = some (.int .i64 (z 1)) := r1.2 1 (by omega)
  obtain ⟨t, ht⟩ : ∃ t, t = z 1 := ⟨_, rfl⟩
  rw [← ht] at a1 hz
  have l4 := Later.cell a1
  have hd : decide (t < L) = false := decide_eq_false (by omega)
  have R1 := Lib.hid r1
  clear r1 r2 ht
  go_wp2_with fail
  refine wp_region_later follows_mixed (by kernel_rfl) ?_
  repeat (first | go_big_quiet_step ((go_at_call 8; exact hcl.out _)) | quiet_step ((go_at_call 8; exact hcl.out _)))
  refine wpQuiet_nil ?_
  intro wq hw'
  have hq : Below wa.heap.size wa wq := by obtain ⟨p, e⟩ := hw'; rw [e]; exact p.h
  clear hw'
  have hwq : Below w.heap.size w wq := BA.out.trans (hq.mono (by omega))
  have X3 := Lib.hid ((hq.block _ (by omega)).trans XA.out)
  have Y3 := Lib.hid ((hq.block _ (by omega)).trans YA.out)
  have R3 := Lib.hid (RA.out.below hq)
  have B3 := Lib.hid hwq
  have hs3 := hq.size
  have HQ := Lib.hid hq
  clear hwq hq x0 x1 x2 x3 l0 l1 l2 l3 hcl a1 l4
  obtain ⟨x0, x1, x2, x3, x4, x5, x6, x7⟩ := cells4 X3.out
  obtain ⟨z0, z1, z2, z3, z4, z5, z6, z7⟩ := cells4 Y3.out
  have a0 : wq.cell? ⟨g1, o1, none⟩ = some (.int .i64 u) := by have := (HQ.out.cell (p := ⟨g1, o1 + 0, none⟩) hg1).trans (R1.out.2 0 (by omega)); rw [HU.out]; exact this
  have h1c : (1 : Int) ≤ (c' : Int) := by omega
  have hwl1 : w.heap.size < wq.heap.size := by omega
  have hwl2 : wq.heap.size ≠ w.heap.size := by omega
  have hg2 : g1 < wq.heap.size := by omega
  have FS := Lib.hid (FlatAt.shift3 (R1.out.below HQ.out (Nat.le_refl _)))
  by_cases hc1 : c' = 1
  · obtain rfl : m = 0 := by omega
    subst hc1
    go_wp2_with (at_builtin; refine wpList_copy _ rfl (.tmp 37) (.tmp 40) _ rfl (w.heap.size + 1 + 1) 32 i0 _ 3 24 Try.underlying22 hi iz0 iz1 iz2 rfl (by decide) wq.heap.size rfl (heap_new _ _ _ rfl) (by omega) (some ⟨g1, o1, none⟩) (0) (0) rfl _ _ (g1) (o1) (fun j => .int .i64 (shZ z j)) (by rw [Nat.zero_mul]; exact FlatAt.zero _ 0 0 _ _ _ _) (fun _ _ => rfl) (by unfold maxLen; omega) (by omega) ?_; intro p5 c5 w5 hc5 hown5 hgr5; have hx5 := (hgr5.block w.heap.size (by simp; omega) (by simp; omega)).trans ((heap_old _ _ _ (by omega)).trans X3.out); have hy5 := (hgr5.block (w.heap.size + 1) (by simp; omega) (by simp; omega)).trans ((heap_old _ _ _ (by omega)).trans Y3.out); obtain ⟨u0, u1, u2, u3, u4, u5, u6, u7⟩ := cells4 hx5; obtain ⟨v0, v1, v2, v3, v4, v5, v6, v7⟩ := cells4 hy5; have hs5 : wq.heap.size + 1 ≤ w5.heap.size := (by have := hgr5.size; simpa using this); have HOWN5 := Lib.hid hown5; have HGR5 := Lib.hid hgr5; have HX5 := Lib.hid hx5; clear hown5 hgr5 hx5 hy5)
    refine bodyPost_ret (v := .tuple #[.agg #[.int .i64 L, .int .i64 G, .bool false, .slice p5 (0) c5], .int .i64 u, .bool true]) (by simp [results, Try.results28, go_sem, v0, v1, v2, v3]) rfl ⟨p5, c5, rfl, hc5, ?_, ?_⟩
    · have hne := own_ne HOWN5.out HX5.out (by decide)
      have hown7 := HOWN5.out.kept (grown_set1 w5 w.heap.size 3 (.slice p5 (0) c5)) (.inr hne)
      obtain ⟨g', h1, h2⟩ := FlatAt.of_own hown7 (f := fun j => .int .i64 (shZ z j)) (fun j hj => by rw [List.getElem?_map, List.getElem?_range hj]; rfl)
      exact (((((RowNew.of_flat (B := w.heap.size + 1 + 1) h1 h2 (by simp) (Nat.le_refl _)).far _ (by simp <;> omega)).far _ (by simp <;> omega)).far _ (by simp <;> omega)).far _ (by simp <;> omega)).wide (by omega)
    · exact ((((((B3.out.alloc (by omega) _).grown HGR5.out (by simp; omega) (fun k hk => by injection hk with hk; omega)).setCell (by simp) _).setCell (by simp <;> omega) _).setCell (by simp <;> omega) _).setCell (by simp <;> omega) _).setCell (by simp <;> omega) _
  · go_wp2_with (at_builtin; refine wpList_copy _ rfl (.tmp 37) (.tmp 40) _ rfl (w.heap.size + 1 + 1) 32 i0 _ 3 24 Try.underlying22 hi iz0 iz1 iz2 rfl (by decide) wq.heap.size rfl (heap_new _ _ _ rfl) (by omega) (some ⟨g1, o1 + 3, none⟩) (m) (c' - 1) rfl _ _ (g1) (o1 + 3) (fun j => .int .i64 (shZ z j)) (FS.out.below ((Below.refl _ _).alloc (by omega) _) (by first | omega | exact Nat.le_of_lt hg1)) (fun _ _ => rfl) (by unfold maxLen; omega) (by omega) ?_; intro p5 c5 w5 hc5 hown5 hgr5; have hx5 := (hgr5.block w.heap.size (by simp; omega) (by simp; omega)).trans ((heap_old _ _ _ (by omega)).trans X3.out); have hy5 := (hgr5.block (w.heap.size + 1) (by simp; omega) (by simp; omega)).trans ((heap_old _ _ _ (by omega)).trans Y3.out); obtain ⟨u0, u1, u2, u3, u4, u5, u6, u7⟩ := cells4 hx5; obtain ⟨v0, v1, v2, v3, v4, v5, v6, v7⟩ := cells4 hy5; have hs5 : wq.heap.size + 1 ≤ w5.heap.size := (by have := hgr5.size; simpa using this); have HOWN5 := Lib.hid hown5; have HGR5 := Lib.hid hgr5; have HX5 := Lib.hid hx5; clear hown5 hgr5 hx5 hy5)
    refine bodyPost_ret (v := .tuple #[.agg #[.int .i64 L, .int .i64 G, .bool false, .slice p5 (m) c5], .int .i64 u, .bool true]) (by simp [results, Try.results28, go_sem, v0, v1, v2, v3]) rfl ⟨p5, c5, rfl, hc5, ?_, ?_⟩
    · have hne := own_ne HOWN5.out HX5.out (by decide)
      have hown7 := HOWN5.out.kept (grown_set1 w5 w.heap.size 3 (.slice p5 (m) c5)) (.inr hne)
      obtain ⟨g', h1, h2⟩ := FlatAt.of_own hown7 (f := fun j => .int .i64 (shZ z j)) (fun j hj => by rw [List.getElem?_map, List.getElem?_range hj]; rfl)
      exact (((((RowNew.of_flat (B := w.heap.size + 1 + 1) h1 h2 (by simp) (Nat.le_refl _)).far _ (by simp <;> omega)).far _ (by simp <;> omega)).far _ (by simp <;> omega)).far _ (by simp <;> omega)).wide (by omega)
    · exact ((((((B3.out.alloc (by omega) _).grown HGR5.out (by simp; omega) (fun k hk => by injection hk with hk; omega)).setCell (by simp) _).setCell (by simp <;> omega) _).setCell (by simp <;> omega) _).setCell (by simp <;> omega) _).setCell (by simp <;> omega) _

end Go.Proofs.Ytlklggkkkbamhaa
