/- What the draw of any belt (l02Any) hands out. -/
import Derived.Test.YtobcgidakbbhpabDrawBelt
namespace Go.Proofs.Ytobcgidakbbhpab
open Go.RowKit
set_option linter.unusedVariables false

theorem blk_far4 {w : World} {g V i : Nat} {u : Value} (h : V ≠ g) : (w.setCell ⟨V, i, none⟩ u).heap[g]? = w.heap[g]? := Below.heap_setCell w _ u g (fun e => h e.symm)
/-- What stands while a drawn belt is changed. -/
def BF (B n : Nat) (p : Option Addr) (cap gc oc g R V : Nat) (L G : Int) (H : Bool) (w0 wr : World) (q : Nat) (po : Option Addr) (co : Nat) (z : Nat → Int) (g1 : Nat) : Prop :=
  Bk wr R 0 0 false (.slice none 0 0) ∧ Bk wr V L G H (.slice po q co) ∧ Cu B n p cap gc oc wr g ∧ w0.grownBy wr (some g) ∧ FlatAt wr (R + 1) V po g1 0 (q * 3) (fun j => .int .i64 (z j)) ∧ FreeAt wr g1 0 (q * 3)
theorem BF.grown {B n : Nat} {p : Option Addr} {cap gc oc g R V : Nat} {L G : Int} {H : Bool} {w0 wr w' : World} {q : Nat} {po : Option Addr} {co : Nat} {z : Nat → Int} {g1 : Nat} (h : BF B n p cap gc oc g R V L G H w0 wr q po co z g1) (hg : wr.grownBy w' (some g)) (hc : Cu B n p cap gc oc w' g) (hR : g < R) (hV : R < V) : BF B n p cap gc oc g R V L G H w0 w' q po co z g1 :=
  ⟨h.1.grown hg (by omega), h.2.1.grown hg (by omega), hc, h.2.2.2.1.trans hg, h.2.2.2.2.1.grown hg (by have := h.2.1.lt; omega) (fun k hk => .inl (by injection hk with hk; omega)), h.2.2.2.2.2.grown hg (fun h0 => by obtain ⟨-, a, b⟩ := h.2.2.2.2.1.1 h0; have := h.2.1.lt; exact ⟨by omega, by intro e; injection e with e; omega⟩)⟩
/-- A number of the belt is written. -/
theorem BF.setLen {B n : Nat} {p : Option Addr} {cap gc oc g R V : Nat} {L G : Int} {H : Bool} {w0 wr : World} {q : Nat} {po : Option Addr} {co : Nat} {z : Nat → Int} {g1 : Nat} (h : BF B n p cap gc oc g R V L G H w0 wr q po co z g1) (x : Int) (hR : g < R) (hV : R < V) (hB : B ≤ V) (hw : w0.heap.size ≤ V) : BF B n p cap gc oc g R V x G H w0 (wr.setCell ⟨V, 0, none⟩ (.int .i64 x)) q po co z g1 :=
  ⟨(Below.heap_setCell _ _ _ _ (by show R ≠ V; omega)).trans h.1, blk_set h.2.1 _, h.2.2.1.set _ _ (by show g ≠ V; omega) hB, grown_setCell h.2.2.2.1 (.inr hw) _, h.2.2.2.2.1.far _ (.inr (Nat.le_refl _)), h.2.2.2.2.2.set _ _⟩
theorem BF.setGap {B n : Nat} {p : Option Addr} {cap gc oc g R V : Nat} {L G : Int} {H : Bool} {w0 wr : World} {q : Nat} {po : Option Addr} {co : Nat} {z : Nat → Int} {g1 : Nat} (h : BF B n p cap gc oc g R V L G H w0 wr q po co z g1) (x : Int) (hR : g < R) (hV : R < V) (hB : B ≤ V) (hw : w0.heap.size ≤ V) : BF B n p cap gc oc g R V L x H w0 (wr.setCell ⟨V, 1, none⟩ (.int .i64 x)) q po co z g1 :=
  ⟨(Below.heap_setCell _ _ _ _ (by show R ≠ V; omega)).trans h.1, blk_set h.2.1 _, h.2.2.1.set _ _ (by show g ≠ V; omega) hB, grown_setCell h.2.2.2.1 (.inr hw) _, h.2.2.2.2.1.far _ (.inr (Nat.le_refl _)), h.2.2.2.2.2.set _ _⟩
/-- A number of an item is written. -/
theorem BF.setItem {B n : Nat} {p : Option Addr} {cap gc oc g R V : Nat} {L G : Int} {H : Bool} {w0 wr : World} {q : Nat} {po : Option Addr} {co : Nat} {z : Nat → Int} {g1 : Nat} (h : BF B n p cap gc oc g R V L G H w0 wr q po co z g1) (i : Nat) (hi : i < q * 3) (x : Int) (hR : g < R) (hV : R < V) (hB : B ≤ R) (hw : w0.heap.size ≤ R) : BF B n p cap gc oc g R V L G H w0 (wr.setCell ⟨g1, i, none⟩ (.int .i64 x)) q po co (fun j => if j = i then x else z j) g1 := by
  obtain ⟨-, a, b⟩ := h.2.2.2.2.1.1 (by omega)
  have hs := h.2.2.2.2.1.set (u := .int .i64 x) i hi
  rw [Nat.zero_add] at hs
  exact ⟨(Below.heap_setCell _ _ _ _ (by show R ≠ g1; omega)).trans h.1, (Below.heap_setCell _ _ _ _ (by show V ≠ g1; omega)).trans h.2.1, h.2.2.1.set _ _ (by show g ≠ g1; omega) (by show B ≤ g1; omega), grown_setCell h.2.2.2.1 (.inr (by show _ ≤ g1; omega)) _, hs.congr (fun j _ => by by_cases e : j = i <;> simp [e]), h.2.2.2.2.2.set _ _⟩

theorem BF.drew {B n : Nat} {p : Option Addr} {cap gc oc g R V : Nat} {L G : Int} {H : Bool} {w0 wr : World} {q : Nat} {po : Option Addr} {co : Nat} {z : Nat → Int} {g1 : Nat} (h : BF B n p cap gc oc g R V L G H w0 wr q po co z g1) : BF B n p cap gc oc g R V L G H w0 wr.drew q po co z g1 :=
  ⟨h.1, h.2.1, h.2.2.1.kept rfl (fun _ _ => rfl), h.2.2.2.1.trans (⟨rfl, rfl, rfl, Nat.le_refl _, fun _ _ _ => rfl⟩ : wr.grownBy wr.drew (some g)), h.2.2.2.2.1.drew, h.2.2.2.2.2⟩

set_option maxRecDepth 100000 in
set_option maxHeartbeats 4000000 in
theorem l02Any_any {B n : Nat} {p : Option Addr} {cap gc oc : Nat} {w : World} {g : Nat} (hn : n ≤ 1048576) (h : Cu B n p cap gc oc w g) :
    Calls Try.prog 94 #[.pointer (some ⟨g, 0, none⟩)] w fun e w' => ∃ (L G : Int) (H : Bool) (q : Nat) (po : Option Addr) (co : Nat) (z : Nat → Int) (g1 : Nat), e = .returned (.agg #[.int .i64 L, .int .i64 G, .bool H, .slice po q co]) ∧ q ≤ 50 ∧ q ≤ co ∧ (∀ j, j < q → z (j * 3) ≤ 4999) ∧ FlatAt w' w.heap.size w'.heap.size po g1 0 (q * 3) (fun j => .int .i64 (z j)) ∧ Cu B n p cap gc oc w' g ∧ w.grownBy w' (some g) := by
  obtain ⟨i0, hi, hz0, hz1, hz2⟩ := info_parts infoItemD
  have c3 := cellsItemD
  have hgl := h.lt
  have hgB := h.base
  have hgr : w.heap.size ≠ g := by omega
  have HR0 := Lib.hid (show Bk (w.alloc (.cells #[.int .i64 0, .int .i64 0, .bool false, .slice none 0 0] 28)) w.heap.size 0 0 false (.slice none 0 0) from heap_new _ _ _ rfl)
  have HDB := Lib.hid (l02Belt_any hn (h.below ((Below.refl w.heap.size w).alloc (Nat.le_refl _) (.cells #[.int .i64 0, .int .i64 0, .bool false, .slice none 0 0] 28))))
  have HG0 := Lib.hid (World.grownBy_alloc w (.cells #[.int .i64 0, .int .i64 0, .bool false, .slice none 0 0] 28) (some g))
  clear h
  go_enter Try.func94, Try.ntmps94
  go_wp2_with fail
  refine HDB.out.mono ?_
  clear HDB
  rintro e w1 ⟨L, G, H, q, po, co, l, rfl, hq6, hown, hc1, hg1, fD, hDB⟩
  obtain ⟨V, hV⟩ : ∃ V, V = w1.heap.size := ⟨_, rfl⟩
  obtain ⟨wo, hwo⟩ : ∃ wo, wo = w1.alloc (.cells #[.int .i64 L, .int .i64 G, .bool H, .slice po q co] 28) := ⟨_, rfl⟩
  obtain ⟨z, hz⟩ : ∃ z : Nat → Int, z = fun j => l.getD j 0 := ⟨_, rfl⟩
  have hll : l.length = q * 3 := by have := hown.1; rwa [List.length_map] at this
  obtain ⟨g1, hfl, hfr⟩ := FlatAt.of_own (f := fun j => .int .i64 (z j)) hown (fun j hj => by rw [List.getElem?_map, List.getElem?_eq_getElem (by omega), hz]; simp [List.getD_eq_getElem?_getD, List.getElem?_eq_getElem (show j < l.length by omega)])
  have hqc : q ≤ co := by
    rcases hown.2 with ⟨-, h0⟩ | ⟨_, _, _, e, -, -, hle, -⟩
    · omega
    · injection e with _ _ e; omega
  have HZ := Lib.hid (show ∀ j, j < q → z (j * 3) ≤ 4999 from fun j hj => by rw [hz]; have := (hDB.2.2.2.2.1 j hj).2; show l.getD (j * 3) 0 ≤ 4999; omega)
  clear hDB
  have hR1 := HR0.out.grown hg1 hgr
  have hRl := hR1.lt
  have hso : wo.heap.size = V + 1 := by rw [hwo, hV]; simp
  have HQ := Lib.hid (show BF B n p cap gc oc g w.heap.size V L G H w wo q po co z g1 from ⟨by rw [hwo]; exact hR1.alloc _, by rw [hwo, hV]; exact heap_new _ _ _ rfl, by rw [hwo]; exact hc1.below ((Below.refl _ _).alloc (Nat.le_refl _) _), by rw [hwo]; exact (HG0.out.trans hg1).trans (World.grownBy_alloc _ _ _), by rw [hwo, hV]; exact (hfl.wide (by simp) (Nat.le_refl _)).below ((Below.refl _ _).alloc (Nat.le_refl _) _) (Nat.le_refl _), by rw [hwo]; exact hfr.below ((Below.refl w1.heap.size _).alloc (Nat.le_refl _) _) (fun h0 => (hfl.1 h0).2.2)⟩)
  have hRV : w.heap.size < V := by omega
  have hBV : B ≤ V := by omega
  have HV := Lib.hid hV
  have HWO := Lib.hid hwo
  clear hwo hV hfl hfr hown hc1 hg1 hR1 hll hz HR0 HG0 hRl l
  go_wp2_with fail
  rw [← HV.out, ← HWO.out]
  obtain ⟨v0, v1, v2, v3, -⟩ := HQ.out.2.1.cells
  clear HV HWO
  go_wp2_with fail
  refine (below_at hn HQ.out.2.2.1 18 _ rfl (by omega) (by omega)).mono ?_
  rintro e w2 ⟨x, hx, rfl, hc2, hg2⟩
  have HQ2 := Lib.hid (HQ.out.grown hg2 hc2 (by omega) hRV)
  have hs2 : V < w2.heap.size := HQ2.out.2.1.lt
  clear hc2 hg2 HQ v0 v1 v2 v3 hso
  obtain ⟨v0, v1, v2, v3, a0, a1, a2, a3⟩ := HQ2.out.2.1.cells
  by_cases h0 : x = 0
  · subst h0
    have HP := Lib.hid (pickNew hn HQ2.out.2.2.1 [0, 400, 401, -1] 4 4 rfl (by decide) (by decide) #[.int .i64 0, .int .i64 400, .int .i64 401, .int .i64 (-1)] rfl 3)
    go_wp2_with fail
    refine HP.out.mono ?_
    rintro e w3 ⟨y, -, rfl, hc3, hg3⟩
    have HQ3 := Lib.hid (HQ2.out.grown hg3 hc3 (by omega) hRV)
    clear hc3 hg3 v0 v1 v2 v3 a0 a1 a2 a3 HP
    obtain ⟨v0, v1, v2, v3, a0, a1, a2, a3⟩ := HQ3.out.2.1.cells
    have HQ := Lib.hid (HQ3.out.setLen y (by omega) hRV hBV (by omega))
    obtain ⟨r0, r1, r2, r3, f0, f1, f2, f3⟩ := HQ.out.1.cells
    obtain ⟨v0, v1, v2, v3, -⟩ := HQ.out.2.1.cells
    go_wp2_with fail
    refine bodyPost_ret (v := .agg #[.int .i64 y, .int .i64 G, .bool H, .slice po q co]) (by simp [results, Try.results94, go_sem, r0, r1, r2, r3]) rfl ⟨y, G, H, q, po, co, z, g1, rfl, by omega, hqc, (fun j hj => by first | exact HZ.out j hj | (show (if _ then _ else _) ≤ (4999 : Int); have h1 := HZ.out j hj; have h0 : z 0 ≤ 4999 := (by have := HZ.out 0 (by omega); simpa using this); split <;> omega)), ?_, ?_, ?_⟩
    · have hf := HQ.out.2.2.2.2.1
      exact ((((hf.far _ (.inl (by show w.heap.size < w.heap.size + 1; omega))).far _ (.inl (by show w.heap.size < w.heap.size + 1; omega))).far _ (.inl (by show w.heap.size < w.heap.size + 1; omega))).far _ (.inl (by show w.heap.size < w.heap.size + 1; omega))).wide (by omega) (by have h9 := HQ.out.2.1.lt; (try simp [World.setCell] at h9); simp [World.setCell]; omega)
    · exact ((((HQ.out.2.2.1.set _ _ hgr.symm (by show B ≤ w.heap.size; omega)).set _ _ hgr.symm (by show B ≤ w.heap.size; omega)).set _ _ hgr.symm (by show B ≤ w.heap.size; omega)).set _ _ hgr.symm (by show B ≤ w.heap.size; omega))
    · exact grown_setCell (grown_setCell (grown_setCell (grown_setCell HQ.out.2.2.2.1 (.inr (Nat.le_refl _)) _) (.inr (Nat.le_refl _)) _) (.inr (Nat.le_refl _)) _) (.inr (Nat.le_refl _)) _
  · have e0 : ((x : Int) == 0) = false := by rw [beq_eq_false_iff_ne]; omega
    by_cases h1 : x = 1
    · subst h1
      have HP := Lib.hid (pickNew hn HQ2.out.2.2.1 [-1, 20, 21] 3 3 rfl (by decide) (by decide) #[.int .i64 (-1), .int .i64 20, .int .i64 21] rfl 3)
      go_wp2_with fail
      refine HP.out.mono ?_
      rintro e w3 ⟨y, -, rfl, hc3, hg3⟩
      have HQ3 := Lib.hid (HQ2.out.grown hg3 hc3 (by omega) hRV)
      clear hc3 hg3 v0 v1 v2 v3 a0 a1 a2 a3 HP
      obtain ⟨v0, v1, v2, v3, a0, a1, a2, a3⟩ := HQ3.out.2.1.cells
      have HQ := Lib.hid (HQ3.out.setGap y (by omega) hRV hBV (by omega))
      obtain ⟨r0, r1, r2, r3, f0, f1, f2, f3⟩ := HQ.out.1.cells
      obtain ⟨v0, v1, v2, v3, -⟩ := HQ.out.2.1.cells
      go_wp2_with fail
      refine bodyPost_ret (v := .agg #[.int .i64 L, .int .i64 y, .bool H, .slice po q co]) (by simp [results, Try.results94, go_sem, r0, r1, r2, r3]) rfl ⟨L, y, H, q, po, co, z, g1, rfl, by omega, hqc, (fun j hj => by first | exact HZ.out j hj | (show (if _ then _ else _) ≤ (4999 : Int); have h1 := HZ.out j hj; have h0 : z 0 ≤ 4999 := (by have := HZ.out 0 (by omega); simpa using this); split <;> omega)), ?_, ?_, ?_⟩
      · have hf := HQ.out.2.2.2.2.1
        exact ((((hf.far _ (.inl (by show w.heap.size < w.heap.size + 1; omega))).far _ (.inl (by show w.heap.size < w.heap.size + 1; omega))).far _ (.inl (by show w.heap.size < w.heap.size + 1; omega))).far _ (.inl (by show w.heap.size < w.heap.size + 1; omega))).wide (by omega) (by have h9 := HQ.out.2.1.lt; (try simp [World.setCell] at h9); simp [World.setCell]; omega)
      · exact ((((HQ.out.2.2.1.set _ _ hgr.symm (by show B ≤ w.heap.size; omega)).set _ _ hgr.symm (by show B ≤ w.heap.size; omega)).set _ _ hgr.symm (by show B ≤ w.heap.size; omega)).set _ _ hgr.symm (by show B ≤ w.heap.size; omega))
      · exact grown_setCell (grown_setCell (grown_setCell (grown_setCell HQ.out.2.2.2.1 (.inr (Nat.le_refl _)) _) (.inr (Nat.le_refl _)) _) (.inr (Nat.le_refl _)) _) (.inr (Nat.le_refl _)) _
    · have e1 : ((x : Int) == 1) = false := by rw [beq_eq_false_iff_ne]; omega
      by_cases h2 : x = 2
      · subst h2
        by_cases hq1 : 1 < q
        · have hd : decide ((1 : Int) < (q : Int)) = true := decide_eq_true (by omega)
          obtain ⟨rfl, -, hgl1⟩ := HQ2.out.2.2.2.2.1.1 (by omega)
          have hw : IntKind.i64.wrap ((q : Int) - 1) = (q : Int) - 1 := IntWalk.i64_in _ (by omega)
          have hi0 : (0 : Int) ≤ (q : Int) - 1 := by omega
          have hil : (q : Int) - 1 < (q : Int) := by omega
          have hql : (0 : Int) < (q : Int) := by omega
          have htn : ((q : Int) - 1).toNat = q - 1 := by omega
          have k0 := HQ2.out.2.2.2.2.1.int 0 (by omega)
          have k1 := HQ2.out.2.2.2.2.1.int ((q - 1) * 3) (by omega)
          have m1 := HQ2.out.2.2.2.2.2 ((q - 1) * 3) (by omega)
          rw [Nat.zero_add] at k0 k1 m1
          have HQ0 := Lib.hid (HQ2.out.setItem ((q - 1) * 3) (by omega) (z 0) (by omega) hRV (by omega) (Nat.le_refl _))
          have HQ := Lib.hid HQ0.out.drew
          go_wp2_with fail
          go_region
          all_goals
            obtain ⟨r0, r1, r2, r3, f0, f1, f2, f3⟩ := HQ0.out.1.cells
            obtain ⟨v0, v1, v2, v3, -⟩ := HQ0.out.2.1.cells
            go_wp2_with fail
            refine bodyPost_ret (v := .agg #[.int .i64 L, .int .i64 G, .bool H, .slice (some ⟨g1, 0, none⟩) q co]) (by simp [results, Try.results94, go_sem, r0, r1, r2, r3]) rfl ⟨L, G, H, q, (some ⟨g1, 0, none⟩), co, (fun j => if j = (q - 1) * 3 then z 0 else z j), g1, rfl, by omega, hqc, (fun j hj => by first | exact HZ.out j hj | (show (if _ then _ else _) ≤ (4999 : Int); have h1 := HZ.out j hj; have h0 : z 0 ≤ 4999 := (by have := HZ.out 0 (by omega); simpa using this); split <;> omega)), ?_, ?_, ?_⟩
            · have hf := HQ.out.2.2.2.2.1
              exact ((((hf.far _ (.inl (by show w.heap.size < w.heap.size + 1; omega))).far _ (.inl (by show w.heap.size < w.heap.size + 1; omega))).far _ (.inl (by show w.heap.size < w.heap.size + 1; omega))).far _ (.inl (by show w.heap.size < w.heap.size + 1; omega))).wide (by omega) (by have h9 := HQ.out.2.1.lt; (try simp [World.setCell] at h9); simp [World.setCell]; omega)
            · exact ((((HQ.out.2.2.1.set _ _ hgr.symm (by show B ≤ w.heap.size; omega)).set _ _ hgr.symm (by show B ≤ w.heap.size; omega)).set _ _ hgr.symm (by show B ≤ w.heap.size; omega)).set _ _ hgr.symm (by show B ≤ w.heap.size; omega))
            · exact grown_setCell (grown_setCell (grown_setCell (grown_setCell HQ.out.2.2.2.1 (.inr (Nat.le_refl _)) _) (.inr (Nat.le_refl _)) _) (.inr (Nat.le_refl _)) _) (.inr (Nat.le_refl _)) _
        · have hd : decide ((1 : Int) < (q : Int)) = false := decide_eq_false (by omega)
          have HQ := HQ2
          obtain ⟨r0, r1, r2, r3, f0, f1, f2, f3⟩ := HQ.out.1.cells
          obtain ⟨v0, v1, v2, v3, -⟩ := HQ.out.2.1.cells
          go_wp2_with fail
          refine bodyPost_ret (v := .agg #[.int .i64 L, .int .i64 G, .bool H, .slice po q co]) (by simp [results, Try.results94, go_sem, r0, r1, r2, r3]) rfl ⟨L, G, H, q, po, co, z, g1, rfl, by omega, hqc, (fun j hj => by first | exact HZ.out j hj | (show (if _ then _ else _) ≤ (4999 : Int); have h1 := HZ.out j hj; have h0 : z 0 ≤ 4999 := (by have := HZ.out 0 (by omega); simpa using this); split <;> omega)), ?_, ?_, ?_⟩
          · have hf := HQ.out.2.2.2.2.1
            exact ((((hf.far _ (.inl (by show w.heap.size < w.heap.size + 1; omega))).far _ (.inl (by show w.heap.size < w.heap.size + 1; omega))).far _ (.inl (by show w.heap.size < w.heap.size + 1; omega))).far _ (.inl (by show w.heap.size < w.heap.size + 1; omega))).wide (by omega) (by have h9 := HQ.out.2.1.lt; (try simp [World.setCell] at h9); simp [World.setCell]; omega)
          · exact ((((HQ.out.2.2.1.set _ _ hgr.symm (by show B ≤ w.heap.size; omega)).set _ _ hgr.symm (by show B ≤ w.heap.size; omega)).set _ _ hgr.symm (by show B ≤ w.heap.size; omega)).set _ _ hgr.symm (by show B ≤ w.heap.size; omega))
          · exact grown_setCell (grown_setCell (grown_setCell (grown_setCell HQ.out.2.2.2.1 (.inr (Nat.le_refl _)) _) (.inr (Nat.le_refl _)) _) (.inr (Nat.le_refl _)) _) (.inr (Nat.le_refl _)) _
      · have e2 : ((x : Int) == 2) = false := by rw [beq_eq_false_iff_ne]; omega
        by_cases h3 : x = 3
        · subst h3
          by_cases hq1 : 0 < q
          · have hd : decide ((0 : Int) < (q : Int)) = true := decide_eq_true (by omega)
            have h1q : (1 : Int) ≤ (q : Int) := by omega
            obtain ⟨rfl, -, hgl1⟩ := HQ2.out.2.2.2.2.1.1 (by omega)
            have hw : IntKind.i64.wrap ((q : Int) - 1) = (q : Int) - 1 := IntWalk.i64_in _ (by omega)
            have hi0 : (0 : Int) ≤ (q : Int) - 1 := by omega
            have hil : (q : Int) - 1 < (q : Int) := by omega
            have htn : ((q : Int) - 1).toNat = q - 1 := by omega
            have k1 := HQ2.out.2.2.2.2.1.int ((q - 1) * 3 + 1) (by omega)
            have m1 := HQ2.out.2.2.2.2.2 ((q - 1) * 3 + 1) (by omega)
            rw [Nat.zero_add] at k1 m1
            have HP := Lib.hid (pickDrew hn HQ2.out.2.2.1 (rfl : w2.heap.size = w2.heap.size) [1, -1, 9] 3 3 rfl (by decide) (by decide) #[.int .i64 1, .int .i64 (-1), .int .i64 9] rfl 3)
            go_wp2_with fail
            have k1a : (w2.alloc (.cells #[.int .i64 1, .int .i64 (-1), .int .i64 9] 3)).cell? ⟨g1, (q - 1) * 3 + 1, none⟩ = some (.int .i64 (z ((q - 1) * 3 + 1))) := (((Below.refl w2.heap.size w2).alloc (Nat.le_refl _) _).cell (p := ⟨g1, (q - 1) * 3 + 1, none⟩) (by show g1 < w2.heap.size; omega)).trans k1
            go_region_law (go_simp; go_at_call 97; (with_reducible refine HP.out.mono ?_); rintro e w3 ⟨y, rfl, hc3, hg3⟩; obtain ⟨u, hu⟩ : ∃ u, IntKind.i64.wrap (z ((q - 1) * 3 + 1) + y) = u := ⟨_, rfl⟩; have hu2 : wrap64 (z ((q - 1) * 3 + 1) + y) = u := (IntWalk.i64_left _).symm.trans hu; have H3 := HQ2.out.grown hg3 hc3 (by omega) hRV; have k3 := H3.2.2.2.2.1.int ((q - 1) * 3 + 1) (by omega); have m3 := H3.2.2.2.2.2 ((q - 1) * 3 + 1) (by omega); rw [Nat.zero_add] at k3 m3; obtain ⟨-, -, -, b3, -⟩ := H3.2.1.cells; have H3h := Lib.hid H3; clear H3 hc3 hg3)
            all_goals
              clear HP v0 v1 v2 v3 a0 a1 a2 a3 k1 m1 k3 m3 b3
              have HQ := Lib.hid (H3h.out.setItem ((q - 1) * 3 + 1) (by omega) u (by omega) hRV (by omega) (Nat.le_refl _))
              obtain ⟨r0, r1, r2, r3, f0, f1, f2, f3⟩ := HQ.out.1.cells
              obtain ⟨v0, v1, v2, v3, -⟩ := HQ.out.2.1.cells
              go_wp2_with fail
              refine bodyPost_ret (v := .agg #[.int .i64 L, .int .i64 G, .bool H, .slice (some ⟨g1, 0, none⟩) q co]) (by simp [results, Try.results94, go_sem, r0, r1, r2, r3]) rfl ⟨L, G, H, q, (some ⟨g1, 0, none⟩), co, (fun j => if j = (q - 1) * 3 + 1 then u else z j), g1, rfl, by omega, hqc, (fun j hj => by first | exact HZ.out j hj | (show (if _ then _ else _) ≤ (4999 : Int); have h1 := HZ.out j hj; have h0 : z 0 ≤ 4999 := (by have := HZ.out 0 (by omega); simpa using this); split <;> omega)), ?_, ?_, ?_⟩
              · have hf := HQ.out.2.2.2.2.1
                exact ((((hf.far _ (.inl (by show w.heap.size < w.heap.size + 1; omega))).far _ (.inl (by show w.heap.size < w.heap.size + 1; omega))).far _ (.inl (by show w.heap.size < w.heap.size + 1; omega))).far _ (.inl (by show w.heap.size < w.heap.size + 1; omega))).wide (by omega) (by have h9 := HQ.out.2.1.lt; (try simp [World.setCell] at h9); simp [World.setCell]; omega)
              · exact ((((HQ.out.2.2.1.set _ _ hgr.symm (by show B ≤ w.heap.size; omega)).set _ _ hgr.symm (by show B ≤ w.heap.size; omega)).set _ _ hgr.symm (by show B ≤ w.heap.size; omega)).set _ _ hgr.symm (by show B ≤ w.heap.size; omega))
              · exact grown_setCell (grown_setCell (grown_setCell (grown_setCell HQ.out.2.2.2.1 (.inr (Nat.le_refl _)) _) (.inr (Nat.le_refl _)) _) (.inr (Nat.le_refl _)) _) (.inr (Nat.le_refl _)) _
          · have hd : decide ((0 : Int) < (q : Int)) = false := decide_eq_false (by omega)
            have HQ := HQ2
            obtain ⟨r0, r1, r2, r3, f0, f1, f2, f3⟩ := HQ.out.1.cells
            obtain ⟨v0, v1, v2, v3, -⟩ := HQ.out.2.1.cells
            go_wp2_with fail
            refine bodyPost_ret (v := .agg #[.int .i64 L, .int .i64 G, .bool H, .slice po q co]) (by simp [results, Try.results94, go_sem, r0, r1, r2, r3]) rfl ⟨L, G, H, q, po, co, z, g1, rfl, by omega, hqc, (fun j hj => by first | exact HZ.out j hj | (show (if _ then _ else _) ≤ (4999 : Int); have h1 := HZ.out j hj; have h0 : z 0 ≤ 4999 := (by have := HZ.out 0 (by omega); simpa using this); split <;> omega)), ?_, ?_, ?_⟩
            · have hf := HQ.out.2.2.2.2.1
              exact ((((hf.far _ (.inl (by show w.heap.size < w.heap.size + 1; omega))).far _ (.inl (by show w.heap.size < w.heap.size + 1; omega))).far _ (.inl (by show w.heap.size < w.heap.size + 1; omega))).far _ (.inl (by show w.heap.size < w.heap.size + 1; omega))).wide (by omega) (by have h9 := HQ.out.2.1.lt; (try simp [World.setCell] at h9); simp [World.setCell]; omega)
            · exact ((((HQ.out.2.2.1.set _ _ hgr.symm (by show B ≤ w.heap.size; omega)).set _ _ hgr.symm (by show B ≤ w.heap.size; omega)).set _ _ hgr.symm (by show B ≤ w.heap.size; omega)).set _ _ hgr.symm (by show B ≤ w.heap.size; omega))
            · exact grown_setCell (grown_setCell (grown_setCell (grown_setCell HQ.out.2.2.2.1 (.inr (Nat.le_refl _)) _) (.inr (Nat.le_refl _)) _) (.inr (Nat.le_refl _)) _) (.inr (Nat.le_refl _)) _
        · have e3 : ((x : Int) == 3) = false := by rw [beq_eq_false_iff_ne]; omega
          by_cases h4 : x = 4
          · subst h4
            by_cases hq1 : 0 < q
            · have hd : decide ((0 : Int) < (q : Int)) = true := decide_eq_true (by omega)
              have h1q : (1 : Int) ≤ (q : Int) := by omega
              obtain ⟨rfl, -, hgl1⟩ := HQ2.out.2.2.2.2.1.1 (by omega)
              have hql : (0 : Int) < (q : Int) := by omega
              have k1 := HQ2.out.2.2.2.2.1.int 2 (by omega)
              have m1 := HQ2.out.2.2.2.2.2 2 (by omega)
              rw [Nat.zero_add] at k1 m1
              have HP := Lib.hid (pickDrew hn HQ2.out.2.2.1 (rfl : w2.heap.size = w2.heap.size) [0, 61, 60, -1] 4 4 rfl (by decide) (by decide) #[.int .i64 0, .int .i64 61, .int .i64 60, .int .i64 (-1)] rfl 3)
              go_wp2_with fail
              go_region_with (go_at_call 97; (with_reducible refine HP.out.mono ?_); rintro e w3 ⟨y, rfl, hc3, hg3⟩; have H3 := HQ2.out.grown hg3 hc3 (by omega) hRV; have k3 := H3.2.2.2.2.1.int 2 (by omega); have m3 := H3.2.2.2.2.2 2 (by omega); rw [Nat.zero_add] at k3 m3; obtain ⟨-, -, -, b3, -⟩ := H3.2.1.cells; have H3h := Lib.hid H3; clear H3 hc3 hg3)
              all_goals
                clear HP v0 v1 v2 v3 a0 a1 a2 a3 k1 m1 k3 m3 b3
                have HQ := Lib.hid (H3h.out.setItem 2 (by omega) y (by omega) hRV (by omega) (Nat.le_refl _))
                obtain ⟨r0, r1, r2, r3, f0, f1, f2, f3⟩ := HQ.out.1.cells
                obtain ⟨v0, v1, v2, v3, -⟩ := HQ.out.2.1.cells
                go_wp2_with fail
                refine bodyPost_ret (v := .agg #[.int .i64 L, .int .i64 G, .bool H, .slice (some ⟨g1, 0, none⟩) q co]) (by simp [results, Try.results94, go_sem, r0, r1, r2, r3]) rfl ⟨L, G, H, q, (some ⟨g1, 0, none⟩), co, (fun j => if j = 2 then y else z j), g1, rfl, by omega, hqc, (fun j hj => by first | exact HZ.out j hj | (show (if _ then _ else _) ≤ (4999 : Int); have h1 := HZ.out j hj; have h0 : z 0 ≤ 4999 := (by have := HZ.out 0 (by omega); simpa using this); split <;> omega)), ?_, ?_, ?_⟩
                · have hf := HQ.out.2.2.2.2.1
                  exact ((((hf.far _ (.inl (by show w.heap.size < w.heap.size + 1; omega))).far _ (.inl (by show w.heap.size < w.heap.size + 1; omega))).far _ (.inl (by show w.heap.size < w.heap.size + 1; omega))).far _ (.inl (by show w.heap.size < w.heap.size + 1; omega))).wide (by omega) (by have h9 := HQ.out.2.1.lt; (try simp [World.setCell] at h9); simp [World.setCell]; omega)
                · exact ((((HQ.out.2.2.1.set _ _ hgr.symm (by show B ≤ w.heap.size; omega)).set _ _ hgr.symm (by show B ≤ w.heap.size; omega)).set _ _ hgr.symm (by show B ≤ w.heap.size; omega)).set _ _ hgr.symm (by show B ≤ w.heap.size; omega))
                · exact grown_setCell (grown_setCell (grown_setCell (grown_setCell HQ.out.2.2.2.1 (.inr (Nat.le_refl _)) _) (.inr (Nat.le_refl _)) _) (.inr (Nat.le_refl _)) _) (.inr (Nat.le_refl _)) _
            · have hd : decide ((0 : Int) < (q : Int)) = false := decide_eq_false (by omega)
              have HQ := HQ2
              obtain ⟨r0, r1, r2, r3, f0, f1, f2, f3⟩ := HQ.out.1.cells
              obtain ⟨v0, v1, v2, v3, -⟩ := HQ.out.2.1.cells
              go_wp2_with fail
              refine bodyPost_ret (v := .agg #[.int .i64 L, .int .i64 G, .bool H, .slice po q co]) (by simp [results, Try.results94, go_sem, r0, r1, r2, r3]) rfl ⟨L, G, H, q, po, co, z, g1, rfl, by omega, hqc, (fun j hj => by first | exact HZ.out j hj | (show (if _ then _ else _) ≤ (4999 : Int); have h1 := HZ.out j hj; have h0 : z 0 ≤ 4999 := (by have := HZ.out 0 (by omega); simpa using this); split <;> omega)), ?_, ?_, ?_⟩
              · have hf := HQ.out.2.2.2.2.1
                exact ((((hf.far _ (.inl (by show w.heap.size < w.heap.size + 1; omega))).far _ (.inl (by show w.heap.size < w.heap.size + 1; omega))).far _ (.inl (by show w.heap.size < w.heap.size + 1; omega))).far _ (.inl (by show w.heap.size < w.heap.size + 1; omega))).wide (by omega) (by have h9 := HQ.out.2.1.lt; (try simp [World.setCell] at h9); simp [World.setCell]; omega)
              · exact ((((HQ.out.2.2.1.set _ _ hgr.symm (by show B ≤ w.heap.size; omega)).set _ _ hgr.symm (by show B ≤ w.heap.size; omega)).set _ _ hgr.symm (by show B ≤ w.heap.size; omega)).set _ _ hgr.symm (by show B ≤ w.heap.size; omega))
              · exact grown_setCell (grown_setCell (grown_setCell (grown_setCell HQ.out.2.2.2.1 (.inr (Nat.le_refl _)) _) (.inr (Nat.le_refl _)) _) (.inr (Nat.le_refl _)) _) (.inr (Nat.le_refl _)) _
          · have e4 : ((x : Int) == 4) = false := by rw [beq_eq_false_iff_ne]; omega
            by_cases h5 : x = 5
            · subst h5
              have hgg := HQ2.out.2.2.1.lt
              have hw0s : w.heap.size ≤ w2.heap.size := HQ2.out.2.2.2.1.size
              have hVg : V ≠ g := by omega
              have hbs : BS B n p cap gc oc g w.heap.size V 400 0 false w ((((w2.setCell ⟨V, 0, none⟩ (.int .i64 400)).setCell ⟨V, 1, none⟩ (.int .i64 0)).setCell ⟨V, 2, none⟩ (.bool false)).setCell ⟨V, 3, none⟩ (.slice none 0 0)) 0 none 0 [] := by
                obtain ⟨q1, q2, q3, q4, -, -⟩ := HQ2.out
                have nR : V ≠ w.heap.size := by omega
                refine ⟨(blk_far4 nR).trans ((blk_far4 nR).trans ((blk_far4 nR).trans ((blk_far4 nR).trans q1))), ?_, (((q3.set _ _ (by show g ≠ V; omega) hBV).set _ _ (by show g ≠ V; omega) hBV).set _ _ (by show g ≠ V; omega) hBV).set _ _ (by show g ≠ V; omega) hBV, grown_setCell (grown_setCell (grown_setCell (grown_setCell q4 (.inr (by show w.heap.size ≤ V; omega)) _) (.inr (by show w.heap.size ≤ V; omega)) _) (.inr (by show w.heap.size ≤ V; omega)) _) (.inr (by show w.heap.size ≤ V; omega)) _, ⟨rfl, .inl ⟨rfl, rfl⟩⟩⟩
                unfold Bk
                rw [blk_set (blk_set (blk_set (blk_set q2 _) _) _) _]
                rfl
              have HBS := Lib.hid hbs
              clear hbs
              go_wp2_with fail

              go_loopw [5] (fun kv wr => ∃ (k : Nat) (po : Option Addr) (co : Nat) (l : List Int), k ≤ 41 ∧ kv = .int .i64 (k : Int) ∧ (∀ j, j < k → l.getD (j * 3) 0 ≤ 4999) ∧ l.length = k * 3 ∧ BS B n p cap gc oc g w.heap.size V 400 0 false w wr k po co l) (fun kv _ => 41 - (intOf kv).toNat)
              case atStart => exact ⟨0, none, 0, [], by omega, rfl, fun j hj => absurd hj (by omega), rfl, HBS.out⟩
              case round =>
                obtain ⟨k, po, co, l, hk, rfl, hZl, hll0, hB0⟩ := hrel
                have HZL := Lib.hid hZl
                have HLL := Lib.hid hll0
                clear hZl hll0
                have HB0 := Lib.hid hB0
                clear hB0
                go_wp2_with fail
                refine (below_at hn HB0.out.2.2.1 2 _ rfl (by omega) (by omega)).mono ?_
                rintro e w7 ⟨b, hb, rfl, hc7, hg7⟩
                have H7h := Lib.hid (HB0.out.grown hg7 hc7 hgr hVg (by omega))
                clear hc7 hg7 HB0
                have hb2 : (b : Int) < 2 := by omega
                have hown7 := H7h.out.2.2.2.2
                have hs7 : V < w7.heap.size := H7h.out.2.1.lt
                obtain ⟨-, -, -, v3, -, -, -, a3⟩ := H7h.out.2.1.cells
                by_cases hlt : k < 40 + b
                · have hd : decide ((k : Int) < 40 + (b : Int)) = true := decide_eq_true (by omega)
                  have hwk : IntKind.i64.wrap ((k : Int) + 1) = (k : Int) + 1 := IntWalk.i64_in _ (by omega)
                  have hwf : IntKind.i64.wrap (400 - (k : Int)) = 400 - (k : Int) := IntWalk.i64_in _ (by omega)
                  have hV9 : ∀ W8, (w7.alloc (.cells #[.int .i64 ((k : Int) + 1), .int .i64 (400 - (k : Int)), .int .i64 1] 40)).grownBy W8 (Value.slice po k co).ownBlock → Bk W8 V 400 0 false (.slice po k co) := fun W8 hg => (hg.block V (by simp; omega) (by intro e; have := (hown7.lt _ e.symm).1; omega)).trans (H7h.out.2.1.alloc _)
                  have HV9 := Lib.hid hV9
                  have HO7 := Lib.hid hown7
                  clear hV9 hown7
                  go_wp2_with (at_builtin; refine wpList_append_lies _ rfl _ _ 26 rfl (V + 1) 40 i0 (.agg #[.int .i64 0, .int .i64 0, .int .i64 0]) 3 24 Try.underlying26 hi hz0 hz1 hz2 rfl (by omega) _ k _ rfl (HO7.out.alloc _) ⟨w7.heap.size, 0, none⟩ 1 1 [.int .i64 ((k : Int) + 1), .int .i64 (400 - (k : Int)), .int .i64 1] rfl rfl (World.news_of_block (cs := #[.int .i64 ((k : Int) + 1), .int .i64 (400 - (k : Int)), .int .i64 1]) (t := 40) (fr := (0, 0)) (heap_alloc_new w7 _)) (by simp [Value.oneCell']) (by omega) (by unfold maxLen; omega) (by omega) (by simp; omega) (w7.heap.size + 1) (by simp) ?_; intro gg cap8 w8 hown8 hgrow8 hat8 hlt8; have HO8 := Lib.hid hown8; have HG8 := Lib.hid hgrow8; have HV8 := Lib.hid (HV9.out _ hgrow8); clear v3 a3 hown8 hgrow8 hat8; obtain ⟨-, -, -, v3, -, -, -, a3⟩ := HV8.out.cells)
                  have hgrow8 := HG8.out
                  have hb8 : ∀ k, k ≤ V → w8.heap[k]? = w7.heap[k]? := fun k hk => (hgrow8.block k (by simp; omega) (by intro e; have := (HO7.out.lt _ e.symm).1; omega)).trans (Below.heap_alloc _ _ _ (by omega))
                  have h7 := H7h.out
                  have hGr : w.grownBy w8 (some g) := ⟨hgrow8.os.trans h7.2.2.2.1.os, hgrow8.tape.trans h7.2.2.2.1.tape, hgrow8.output.trans h7.2.2.2.1.output, Nat.le_trans h7.2.2.2.1.size (Nat.le_trans (by simp) hgrow8.size), fun k hk hne => (hb8 k (by omega)).trans (h7.2.2.2.1.block k hk hne)⟩
                  have hnew : BS B n p cap gc oc g w.heap.size V 400 0 false w (w8.setCell ⟨V, 3, none⟩ (.slice (some ⟨gg, 0, none⟩) (k + 1) cap8)) (k + 1) (some ⟨gg, 0, none⟩) cap8 (l ++ [(k : Int) + 1, 400 - (k : Int), 1]) := by
                    refine ⟨?_, blk_set HV8.out _, ?_, grown_setCell hGr (.inr (by show w.heap.size ≤ V; omega)) _, ?_⟩
                    · exact (Below.heap_setCell _ _ _ _ (by show w.heap.size ≠ V; omega)).trans ((hb8 _ (by omega)).trans h7.1)
                    · exact (h7.2.2.1.kept (hb8 g (by omega)) (fun k hk => hb8 k (by omega))).set _ _ (by show g ≠ V; omega) (by show B ≤ V; omega)
                    · rw [List.map_append]
                      exact HO8.out.kept (grown_set1 _ _ _ _) (.inr (fun e => by have := (HO8.out.lt _ e).1; omega))
                  have HN := Lib.hid hnew
                  clear hnew hgrow8 hb8 h7 hGr
                  go_wp2_with fail
                  go_roundw
                  case rel =>
                    refine ⟨k + 1, _, _, _, by omega, by congr 1, fun j hj => ?_, by rw [List.length_append, HLL.out]; simp; omega, HN.out⟩
                    by_cases ej : j = k
                    · rw [ej, show k * 3 = k * 3 + 0 by rfl, getD_right3 HLL.out (by omega)]; show (k : Int) + 1 ≤ 4999; omega
                    · rw [getD_left (by rw [HLL.out]; omega)]; exact HZL.out j (by omega)
                  case measure => simp only [intOf]; omega
                · have hd : decide ((k : Int) < 40 + (b : Int)) = false := decide_eq_false (by omega)
                  obtain ⟨r0, r1, r2, r3, f0, f1, f2, f3⟩ := H7h.out.1.cells
                  obtain ⟨v0, v1, v2, v3, -⟩ := H7h.out.2.1.cells
                  have hqc : k ≤ co := by
                    rcases hown7.2 with ⟨-, h0⟩ | ⟨_, _, _, e, -, -, hle, -⟩
                    · omega
                    · injection e with _ _ e; omega
                  have hll : l.length = k * 3 := by have := hown7.1; rwa [List.length_map] at this
                  obtain ⟨g3, hfl, hfr⟩ := FlatAt.of_own (f := fun j => .int .i64 (l.getD j 0)) hown7 (fun j hj => by rw [List.getElem?_map, List.getElem?_eq_getElem (by omega)]; simp [List.getD_eq_getElem?_getD, List.getElem?_eq_getElem (show j < l.length by omega)])
                  have HFL := Lib.hid hfl
                  clear hfl hfr hown7 hll
                  go_wp2_with fail
                  refine bodyPost_ret (v := .agg #[.int .i64 400, .int .i64 0, .bool false, .slice po k co]) (by simp [results, Try.results94, go_sem, r0, r1, r2, r3]) rfl ⟨400, 0, false, k, po, co, fun j => l.getD j 0, g3, rfl, by omega, hqc, HZL.out, ?_, ?_, ?_⟩
                  · have hf := HFL.out
                    exact ((((hf.far _ (.inl (by show w.heap.size < V + 1; omega))).far _ (.inl (by show w.heap.size < V + 1; omega))).far _ (.inl (by show w.heap.size < V + 1; omega))).far _ (.inl (by show w.heap.size < V + 1; omega))).wide (by omega) (by simp [World.setCell])
                  · exact ((((H7h.out.2.2.1.set _ _ hgr.symm (by show B ≤ w.heap.size; omega)).set _ _ hgr.symm (by show B ≤ w.heap.size; omega)).set _ _ hgr.symm (by show B ≤ w.heap.size; omega)).set _ _ hgr.symm (by show B ≤ w.heap.size; omega))
                  · exact grown_setCell (grown_setCell (grown_setCell (grown_setCell H7h.out.2.2.2.1 (.inr (Nat.le_refl _)) _) (.inr (Nat.le_refl _)) _) (.inr (Nat.le_refl _)) _) (.inr (Nat.le_refl _)) _
            · have e5 : ((x : Int) == 5) = false := by rw [beq_eq_false_iff_ne]; omega
              have HQ := HQ2
              obtain ⟨r0, r1, r2, r3, f0, f1, f2, f3⟩ := HQ.out.1.cells
              obtain ⟨v0, v1, v2, v3, -⟩ := HQ.out.2.1.cells
              go_wp2_with fail
              refine bodyPost_ret (v := .agg #[.int .i64 L, .int .i64 G, .bool H, .slice po q co]) (by simp [results, Try.results94, go_sem, r0, r1, r2, r3]) rfl ⟨L, G, H, q, po, co, z, g1, rfl, by omega, hqc, (fun j hj => by first | exact HZ.out j hj | (show (if _ then _ else _) ≤ (4999 : Int); have h1 := HZ.out j hj; have h0 : z 0 ≤ 4999 := (by have := HZ.out 0 (by omega); simpa using this); split <;> omega)), ?_, ?_, ?_⟩
              · have hf := HQ.out.2.2.2.2.1
                exact ((((hf.far _ (.inl (by show w.heap.size < w.heap.size + 1; omega))).far _ (.inl (by show w.heap.size < w.heap.size + 1; omega))).far _ (.inl (by show w.heap.size < w.heap.size + 1; omega))).far _ (.inl (by show w.heap.size < w.heap.size + 1; omega))).wide (by omega) (by have h9 := HQ.out.2.1.lt; (try simp [World.setCell] at h9); simp [World.setCell]; omega)
              · exact ((((HQ.out.2.2.1.set _ _ hgr.symm (by show B ≤ w.heap.size; omega)).set _ _ hgr.symm (by show B ≤ w.heap.size; omega)).set _ _ hgr.symm (by show B ≤ w.heap.size; omega)).set _ _ hgr.symm (by show B ≤ w.heap.size; omega))
              · exact grown_setCell (grown_setCell (grown_setCell (grown_setCell HQ.out.2.2.2.1 (.inr (Nat.le_refl _)) _) (.inr (Nat.le_refl _)) _) (.inr (Nat.le_refl _)) _) (.inr (Nat.le_refl _)) _

end Go.Proofs.Ytobcgidakbbhpab
