/- The program's sort of tags by their numbers, as a contract on owned rows. -/
import Derived.Test.YtjdmagackoddaaaDoorNearWalk
import Derived.Test.YtjdmagackoddaaaDoorShelfSort
import Derived.Shelf.SlSortCmp.NoneTotal
namespace Go.Proofs.YtjdmagackoddaaaDoor
open Go.RowKit Go.Sort Go.Shelf Go.Lib
set_option linter.unusedVariables false

/-- Draws, and blocks behind: two such steps are one. -/
def Grew (w w' : World) : Prop := ∃ (q : Nat) (os : Array Obj), w' = grow (w.drewN q) os
theorem Grew.refl (w : World) : Grew w w := ⟨0, #[], by rw [grow_empty]; rfl⟩
theorem Grew.alloc (w : World) (o : Obj) : Grew w (w.alloc o) := ⟨0, #[o], by rw [alloc_eq_grow]; rfl⟩
theorem Grew.drew (w : World) : Grew w w.drew := ⟨1, #[], by rw [grow_empty]; rfl⟩
theorem Grew.trans {a b c : World} (h : Grew a b) (k : Grew b c) : Grew a c := by
  obtain ⟨q, os, rfl⟩ := h
  obtain ⟨q', os', rfl⟩ := k
  exact ⟨q + q', os ++ os', by show grow (grow ((a.drewN q).drewN q') os) os' = _; rw [grow_grow, World.drewN_drewN]⟩
theorem Grew.below {a b : World} (h : Grew a b) : Below a.heap.size a b := by
  obtain ⟨q, os, rfl⟩ := h
  exact below_grow _ _ (Nat.le_refl _) _ _

theorem iok_grew {M : Nat} {a b c : Int} (h : Tr M a b c) (w : World) :
    Calls Tryd.prog 29 #[.agg #[.int .i64 a, .int .i64 b, .int .i64 c]] w fun e w' => e = .returned (.bool true) ∧ Grew w w' := by
  have ht : tokB a b c = true := by
    obtain ⟨h1, rfl, rfl, rfl⟩ := h
    have := triB_eq (okN_iff.1 h1).1
    rw [h1] at this
    exact this
  obtain ⟨⟨h1, h2⟩, ⟨h3, h4⟩, h5, h6⟩ := tokB_iff.1 ht
  have g1 := Lib.hid (inB_yes h1 h2)
  have g2 := Lib.hid (inB_yes h3 h4)
  have g3 := Lib.hid (inB_yes h5 h6)
  clear h ht h1 h2 h3 h4 h5 h6
  have tok1 : True := trivial
  have tok2 : True := trivial
  go_enter Tryd.func29, Tryd.ntmps29
  go_wp2_with (first
    | (go_at_call 44; (with_reducible refine (within_any 0 9 a _).mono ?_); rw [g1.out]; rintro e w' ⟨rfl, rfl⟩)
    | (go_at_call 44; (with_reducible refine (within_any 1 999 b _).mono ?_); rw [g2.out]; rintro e w' ⟨rfl, rfl⟩)
    | (go_at_call 44; (with_reducible refine (within_any 0 999999 c _).mono ?_); rw [g3.out]; rintro e w' ⟨rfl, rfl⟩))
  go_ret
  exact ⟨rfl, Grew.alloc _ _⟩

theorem inum_grew {M : Nat} {a b c : Int} (h : Tr M a b c) (w : World) :
    Calls Tryd.prog 14 #[.agg #[.int .i64 a, .int .i64 b, .int .i64 c]] w fun e w' => e = .returned (.int .i64 (M : Int)) ∧ Grew w w' := by
  have ht : tokB a b c = true := by
    obtain ⟨h1, rfl, rfl, rfl⟩ := h
    have := triB_eq (okN_iff.1 h1).1
    rw [h1] at this
    exact this
  have hn : (a * 1000 + b) * 1000000 + c = (M : Int) := by
    obtain ⟨h1, rfl, rfl, rfl⟩ := h
    have := tri_num h1
    unfold tnum at this
    rwa [if_pos ht] at this
  obtain ⟨⟨h1, h2⟩, ⟨h3, h4⟩, h5, h6⟩ := tokB_iff.1 ht
  have H := Lib.hid h
  have HN := Lib.hid hn
  clear h ht hn
  go_enter Tryd.func14, Tryd.ntmps14
  go_wp2_with (go_at_call 29; refine (iok_grew H.out _).mono ?_; rintro e w1 ⟨rfl, hg⟩; have hb := hg.below; obtain ⟨hc, hf⟩ := bcell hb; have HG := Lib.hid hg; clear hg hb)
  go_ret
  refine ⟨?_, (Grew.alloc _ _).trans HG.out⟩
  rw [← HN.out]
  rfl

abbrev VN := { M : Nat // okN M = true }
instance : Inhabited VN := ⟨⟨1000000, by decide⟩⟩
def encT (x : VN) : List Value := tagCell (tri x.1)
def cfT (x y : VN) : Int := Lib.compareInt (x.1 : Int) (y.1 : Int)
theorem ltT (x y : VN) : ltOf cfT x y = decide (x.1 < y.1) := by
  unfold ltOf cfT Lib.compareInt
  by_cases h1 : x.1 < y.1
  · simp [h1]
  · by_cases h2 : y.1 < x.1 <;> simp [h1, h2]
theorem swoT : SWO (ltOf cfT) where
  irrefl x := by rw [ltT]; simp
  trans x y z h1 h2 := by rw [ltT] at *; simp at *; omega
  ntrans x y z h1 h2 := by rw [ltT] at *; simp at *; omega
theorem oneT (x y : VN) (h1 : ltOf cfT x y = false) (h2 : ltOf cfT y x = false) : x = y := by
  rw [ltT] at h1 h2
  simp at h1 h2
  exact Subtype.ext (by omega)

theorem cell_in {w : World} {k : Nat} {vs : Array Value} {t : TypeId} (W : World) (hW : Below (w.heap.size + 1) (w.alloc (.cells vs t)) W) (i : Nat) (v : Value) (h : vs[i]? = some v) : W.cell? ⟨w.heap.size, i, none⟩ = some v :=
  (hW.cell (p := ⟨w.heap.size, i, none⟩) (Nat.lt_succ_self _)).trans (newCell w vs t i v h)

set_option maxHeartbeats 1000000 in
set_option maxRecDepth 100000 in
theorem closT (x y : VN) (W : World) :
    Calls Tryd.prog 34 #[.agg #[.int .i64 ((tri x.1).1 : Int), .int .i64 ((tri x.1).2.1 : Int), .int .i64 ((tri x.1).2.2 : Int)], .agg #[.int .i64 ((tri y.1).1 : Int), .int .i64 ((tri y.1).2.1 : Int), .int .i64 ((tri y.1).2.2 : Int)]] W fun e w' => e = .returned (.int .i64 (cfT x y)) ∧ ∃ q os', w' = grow (W.drewN q) os' := by
  obtain ⟨xa, xb, xc, hX⟩ : ∃ a b c, Tr x.1 a b c := ⟨_, _, _, Tr.mk' x.2⟩
  obtain ⟨ya, yb, yc, hY⟩ : ∃ a b c, Tr y.1 a b c := ⟨_, _, _, Tr.mk' y.2⟩
  rw [← hX.2.1, ← hX.2.2.1, ← hX.2.2.2, ← hY.2.1, ← hY.2.2.1, ← hY.2.2.2]
  obtain ⟨r, hr⟩ : ∃ r, r = cfT x y := ⟨_, rfl⟩
  have hcmp : ∀ w, Calls Tryd.prog 35 #[.int .i64 (x.1 : Int), .int .i64 (y.1 : Int)] w fun e w' => e = .returned (.int .i64 r) ∧ w' = w := fun w => by rw [hr]; exact Tryd.cmp_Compare_int _ _ w
  obtain ⟨nx, hnx⟩ : ∃ nx, nx = x.1 := ⟨_, rfl⟩
  obtain ⟨ny, hny⟩ : ∃ ny, ny = y.1 := ⟨_, rfl⟩
  rw [← hnx] at hX hcmp
  rw [← hny] at hY hcmp
  rw [← hr]
  have HX := Lib.hid hX
  have HY := Lib.hid hY
  have HC := Lib.hid hcmp
  clear hX hY hcmp hr hnx hny
  have mixed : Tryd.prog.follows .mixedOrders = true := by kernel_rfl
  obtain ⟨W0, hW0⟩ : ∃ W0, W0 = (W.alloc (.cells #[.int .i64 xa, .int .i64 xb, .int .i64 xc] 29)).alloc (.cells #[.int .i64 ya, .int .i64 yb, .int .i64 yc] 29) := ⟨_, rfl⟩
  have hs0 : W0.heap.size = W.heap.size + 2 := by rw [hW0]; simp
  have hGw : Grew W W0 := by rw [hW0]; exact (Grew.alloc _ _).trans (Grew.alloc _ _)
  have hB1 : Below (W.heap.size + 1) (W.alloc (.cells #[.int .i64 xa, .int .i64 xb, .int .i64 xc] 29)) W0 := by rw [hW0]; exact (Below.refl _ _).alloc (by simp) _
  have x0 := cell_in (k := 0) W0 hB1 0 _ rfl
  have x1 := cell_in (k := 0) W0 hB1 1 _ rfl
  have x2 := cell_in (k := 0) W0 hB1 2 _ rfl
  have hsz : (W.alloc (.cells #[.int .i64 xa, .int .i64 xb, .int .i64 xc] 29)).heap.size = W.heap.size + 1 := by simp
  have y0 := newCell (W.alloc (.cells #[.int .i64 xa, .int .i64 xb, .int .i64 xc] 29)) #[.int .i64 ya, .int .i64 yb, .int .i64 yc] 29 0 _ rfl
  have y1 := newCell (W.alloc (.cells #[.int .i64 xa, .int .i64 xb, .int .i64 xc] 29)) #[.int .i64 ya, .int .i64 yb, .int .i64 yc] 29 1 _ rfl
  have y2 := newCell (W.alloc (.cells #[.int .i64 xa, .int .i64 xb, .int .i64 xc] 29)) #[.int .i64 ya, .int .i64 yb, .int .i64 yc] 29 2 _ rfl
  rw [← hW0, hsz] at y0 y1 y2
  have X0 := cell_grown (a := ⟨W.heap.size, 0, none⟩) (by show W.heap.size < _; omega) x0
  have X1 := cell_grown (a := ⟨W.heap.size, 1, none⟩) (by show W.heap.size < _; omega) x1
  have X2 := cell_grown (a := ⟨W.heap.size, 2, none⟩) (by show W.heap.size < _; omega) x2
  have Y0 := cell_grown (a := ⟨W.heap.size + 1, 0, none⟩) (by show W.heap.size + 1 < _; omega) y0
  have Y1 := cell_grown (a := ⟨W.heap.size + 1, 1, none⟩) (by show W.heap.size + 1 < _; omega) y1
  have Y2 := cell_grown (a := ⟨W.heap.size + 1, 2, none⟩) (by show W.heap.size + 1 < _; omega) y2
  have HW0 := Lib.hid hW0
  have HG := Lib.hid hGw
  clear hW0 hGw hB1 hsz x0 x1 x2 y0 y1 y2 hs0
  go_enter Tryd.func34, Tryd.ntmps34
  go_wp2_with fail
  rw [← HW0.out]
  go_quiet_grown ((first
    | (go_at_call 14; first | (with_reducible exact Calls.grown_of (inum_grew HX.out _)) | (with_reducible exact Calls.grown_of (inum_grew HY.out _)))
    | (go_at_call 35; exact Calls.grown_of ((HC.out _).mono fun _ _ ⟨h1, h2⟩ => ⟨h1, by rw [h2]; exact Grew.refl _⟩))))
  go_wp2
  go_ret
  exact ⟨rfl, HG.out.trans ⟨_, _, rfl⟩⟩

theorem heap_srt {w : World} {g n : Nat} {os : Array Obj} {cur : Array Value} {e : TypeId} {fr : Nat × Nat} (d : Array Value) (hb : w.heap[g]? = some (.cells cur e fr)) :
    (grow (putRow id (Sort.ahead w n) g 0 d) os).heap[g]? = some (.cells (putCells id 0 d cur) e fr) := by
  have hg : g < w.heap.size := (Array.getElem?_eq_some_iff.1 hb).1
  rw [Sort.heap_grow_old _ _ (by simpa using hg)]
  simp [putRow, mapBlock, Sort.ahead, Array.getElem?_modify, hb, onCells]
theorem below_srt {w : World} {g n : Nat} {os : Array Obj} (d : Array Value) (B : Nat) (hB : B ≤ g) (hg : g < w.heap.size) : Below B w (grow (putRow id (Sort.ahead w n) g 0 d) os) := by
  refine ⟨rfl, rfl, rfl, by simp, fun k hk => ?_⟩
  rw [Sort.heap_grow_old _ _ (by simp; omega)]
  have : g ≠ k := by omega
  simp [putRow, mapBlock, Sort.ahead, Array.getElem?_modify, this]
theorem take_srt (cur : Array Value) (F : Array Value) (h : F.size ≤ cur.size) : (putCells id 0 F cur).toList.take F.size = F.toList := by
  apply List.ext_getElem?
  intro j
  by_cases hj : j < F.size
  · rw [List.getElem?_take_of_lt hj, Array.getElem?_toList]
    simp [putCells, hj, show j < cur.size by omega]
  · rw [List.getElem?_take_eq_none (by omega), List.getElem?_eq_none (by simp; omega)]

def vals (l : List VN) : List Nat := l.map (·.1)
theorem cells_vals (l : List VN) : l.flatMap encT = cellsN (vals l) := by
  induction l with
  | nil => rfl
  | cons x l ih => rw [List.flatMap_cons, ih]; rfl
theorem flat3 (l : List VN) : (flatK encT 3 l.toArray).toList = cellsN (vals l) := by
  have hlen : (cellsN (vals l)).length = l.length * 3 := by rw [cellsN_length]; simp [vals]
  apply List.ext_getElem?
  intro t
  by_cases ht : t < l.length * 3
  · have hq : t / 3 < l.length := by omega
    have hqv : t / 3 < (vals l).length := by simpa [vals] using hq
    obtain ⟨c0, c1, c2⟩ := cellsN_at (vals l) (t / 3) hqv
    have hg : (vals l)[t / 3] = (l[t / 3]).1 := by simp [vals]
    have hf : (flatK encT 3 l.toArray).toList[t]? = some ((encT l[t / 3])[t % 3]!) := by
      rw [Array.getElem?_toList]
      unfold flatK
      simp [ht, hq]
    rw [hf]
    rcases (show t % 3 = 0 ∨ t % 3 = 1 ∨ t % 3 = 2 by omega) with h | h | h
    · rw [show t / 3 * 3 = t by omega, hg] at c0
      rw [c0, h]; rfl
    · rw [show t / 3 * 3 + 1 = t by omega, hg] at c1
      rw [c1, h]; rfl
    · rw [show t / 3 * 3 + 2 = t by omega, hg] at c2
      rw [c2, h]; rfl
  · rw [List.getElem?_eq_none (by simp; omega), List.getElem?_eq_none (by omega)]
theorem sorted_vals (l : List VN) : vals (l.mergeSort fun x y => !(ltOf cfT) y x) = sortF (vals l) := by
  have hp : (vals (l.mergeSort fun x y => !(ltOf cfT) y x)).Perm (vals l) := (List.mergeSort_perm l _).map _
  have hs : (l.mergeSort fun x y => !(ltOf cfT) y x).Pairwise (fun x y => (!(ltOf cfT) y x) = true) := by
    apply List.pairwise_mergeSort
    · intro a b c h1 h2
      rw [ltT] at *
      simp at *
      omega
    · intro a b
      rw [ltT, ltT]
      simp
      omega
  refine sorted_one (hp.trans (sortF_facts (vals l)).1.symm) ?_ (sortF_facts (vals l)).2
  unfold vals
  rw [List.pairwise_map]
  refine hs.imp ?_
  intro a b h
  rw [ltT] at h
  simpa using h

set_option maxRecDepth 100000 in
set_option maxHeartbeats 1000000 in
theorem sort_any (l : List VN) (hl : l.length ≤ 1000) (v : Value) (B : Nat) (w : World) (h : w.ownsRow B 29 3 v l.length (cellsN (vals l))) :
    Calls Tryd.prog 33 #[v, .func (.func 34) #[] #[]] w fun e w' => e = .returned (.tuple #[]) ∧ w'.ownsRow B 29 3 v l.length (cellsN (sortF (vals l))) ∧ Below B w w' := by
  by_cases h0 : l.length = 0
  · have hl0 : l = [] := List.eq_nil_of_length_eq_zero h0
    subst hl0
    obtain ⟨p, cap, rfl⟩ := row_form3 h
    refine (AnyF.slices_SortFunc_none Tryd.sortTag p cap _ w).mono ?_
    rintro e w' ⟨he, rfl⟩
    exact ⟨he, h, Below.refl _ _⟩
  · rcases h.2 with ⟨_, h1⟩ | ⟨g, cap, cur, rfl, hg, hb, hn, hcap, hsz, htk⟩
    · exact absurd h1 h0
    · have hgl : g < w.heap.size := (Array.getElem?_eq_some_iff.1 hb).1
      have eg : ∀ args w, (callFunc 34 args).run Tryd.prog w = .ok (.enter 34 args) w := enters_of Tryd.func34 (by kernel_rfl) rfl
      have hF := flat3 l
      have hH : HoldsK encT 3 w g 0 l.toArray := by
        intro j hj
        have hj' : j < l.length * 3 := by simpa using hj
        have hc := h.cellAt j hj'
        rw [← hF, Array.getElem?_toList] at hc
        rw [Nat.zero_add, hc]
        refine ⟨?_, h.frozenAt j⟩
        rw [getElem!_pos _ j hj, Array.getElem?_eq_getElem hj]
        rfl
      have hcon := AnyQ.slices_SortFunc_total Tryd.sortTag 3 Tryd.isAgg29 Tryd.sizeOf29 encT (fun _ => rfl) (fun x v hv => by simp [encT, tagCell] at hv; rcases hv with rfl | rfl | rfl <;> rfl) cfT swoT 34 #[] g 0 cap l.toArray w eg (fun _ _ _ _ x y => closT x y _) hH hgl (by simp; omega) oneT
      change Calls Tryd.prog 33 _ _ _ at hcon
      rw [List.size_toArray] at hcon
      refine hcon.mono ?_
      rintro e w' ⟨he, n, os, rfl⟩
      refine ⟨he, ?_, ?_⟩
      · have hsl : (l.mergeSort fun x y => !(ltOf cfT) y x).length = l.length := List.length_mergeSort l
        have hF2 := flat3 (l.mergeSort fun x y => !(ltOf cfT) y x)
        rw [sorted_vals] at hF2
        have hFs : (flatK encT 3 (l.mergeSort fun x y => !(ltOf cfT) y x).toArray).size = l.length * 3 := by simp [hsl]
        refine ⟨by rw [← hF2]; simp, .inr ⟨g, cap, _, rfl, hg, heap_srt _ hb, hn, hcap, by simp [putCells, hsz], ?_⟩⟩
        have ht := take_srt cur (flatK encT 3 (l.mergeSort fun x y => !(ltOf cfT) y x).toArray) (by rw [hFs, hsz]; exact Nat.mul_le_mul_right _ hn)
        rw [hFs, hF2] at ht
        exact ht
      · exact below_srt _ _ hg hgl

end Go.Proofs.YtjdmagackoddaaaDoor
