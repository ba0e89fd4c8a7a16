/- A box with a piece more: what the program's withPiece and newBox return. -/
import Derived.Test.YtnkhjlpeeljelaaBoxMem
import Derived.Test.YtnkhjlpeeljelaaRowPiece
import Derived.Deep.AppendLies
namespace Go.Proofs.Ytnkhjlpeeljelaa
open Go.RowKit
set_option linter.unusedVariables false

theorem set3W {w : World} {k : Nat} {a b c : Value} {t : TypeId} (h : w.heap[k]? = some (.cells #[a, b, c] t (0, 0))) (x y v : Value) :
    (((w.setCell ⟨k, 0, none⟩ x).setCell ⟨k, 1, none⟩ y).setCell ⟨k, 2, none⟩ v).heap[k]? = some (.cells #[x, y, v] t (0, 0)) := by
  rw [blk_set (blk_set (blk_set h x) y) v]; rfl
theorem grown_setN {a w : World} {r : Option Nat} (h : a.grownBy w r) {p : Addr} (hp : a.heap.size ≤ p.block) (u : Value) : a.grownBy (w.setCell p u) r :=
  ⟨h.os, h.tape, h.output, by simpa [World.setCell] using h.size, fun i hi hne => (Below.heap_setCell w p u i (by omega)).trans (h.block i hi hne)⟩
theorem own_set {w : World} {B : Nat} {e : TypeId} {k : Nat} {v : Value} {n : Nat} {xs : List Value} (h : w.ownsRow B e k v n xs) {p : Addr} (hp : v.ownBlock ≠ some p.block) (u : Value) : (w.setCell p u).ownsRow B e k v n xs :=
  own_keepB (r := some p.block) h ⟨rfl, rfl, rfl, by simp [World.setCell], fun k _ hne => Below.heap_setCell _ _ _ _ (fun e => hne (by rw [e]))⟩ (fun b hb e => by injection e with e; subst e; exact hp hb)
theorem infoIntW : (Try.prog.info? 3).map (fun i => (i.zero, i.size, i.bytes)) = some (some (.int .i64 0), 1, 8) := by kernel_rfl
theorem cells3W {w : World} {k : Nat} {a b c : Value} {t : TypeId} (h : w.heap[k]? = some (.cells #[a, b, c] t (0, 0))) :
    w.cell? ⟨k, 0, none⟩ = some a ∧ w.cell? ⟨k, 1, none⟩ = some b ∧ w.cell? ⟨k, 2, none⟩ = some c ∧ w.frozen? ⟨k, 0, none⟩ = false ∧ w.frozen? ⟨k, 1, none⟩ = false ∧ w.frozen? ⟨k, 2, none⟩ = false :=
  ⟨by simp [World.cell?, h], by simp [World.cell?, h], by simp [World.cell?, h], by simp [World.frozen?, h], by simp [World.frozen?, h], by simp [World.frozen?, h]⟩

set_option maxRecDepth 100000 in
set_option maxHeartbeats 4000000 in
theorem iWithPiece_any (cls wt : Int) (sv : Value) (l : List Int) (hl : l.length ≤ 1048576) (b pw pc : Int) (hw : IntKind.i64.wrap (wt + pw) = wt + pw) (B : Nat) (w : World) (hB : B ≤ w.heap.size) (h : w.ownsRow B 3 1 sv l.length (l.map (.int .i64))) :
    Calls Try.prog 77 #[.agg #[.int .i64 cls, .int .i64 wt, sv], .agg #[.int .i64 b, .int .i64 pw, .int .i64 pc]] w fun e w' => ∃ g c, e = .returned (.agg #[.int .i64 cls, .int .i64 (wt + pw), .slice (some ⟨g, 0, none⟩) (l.length + 1) c]) ∧ w'.ownsRow B 3 1 (.slice (some ⟨g, 0, none⟩) (l.length + 1) c) (l.length + 1) ((l ++ [b]).map (.int .i64)) ∧ w.grownBy w' sv.ownBlock ∧ (sv.ownBlock = some g ∨ w.heap.size ≤ g) := by
  obtain ⟨i0, hi, hz0, hz1, hz2⟩ := info_parts infoIntW
  have ck := cellsBox
  have cp := cellsPiece
  obtain ⟨ps, cs, rfl⟩ := own_sliceB h
  have HXL := Lib.hid (show (l ++ [b]).map (Value.int .i64) = l.map (.int .i64) ++ [.int .i64 b] by rw [List.map_append]; rfl)
  obtain ⟨m, hm⟩ : ∃ m, m = l.length := ⟨_, rfl⟩
  obtain ⟨xs, hxs⟩ : ∃ xs, xs = l.map (Value.int .i64) := ⟨_, rfl⟩
  rw [← hm] at h hl
  rw [← hxs] at h HXL
  rw [← hm]
  have H := Lib.hid h
  have HM := Lib.hid hm
  clear h hxs hm
  go_enter Try.func77, Try.ntmps77
  have hlt := Lib.hid (fun k hk => (H.out.lt k hk).2)
  go_wp2_with (at_builtin; refine wpList_append_lies _ rfl _ _ 35 rfl B 3 i0 (.int .i64 0) 1 8 Try.underlying35 hi hz0 hz1 hz2 rfl (by decide) _ m _ rfl ((((H.out.alloc _).alloc _).alloc _).alloc _) ⟨w.heap.size + 1 + 1 + 1, 0, none⟩ 1 1 [.int .i64 b] rfl rfl (World.news_of_block (cs := #[.int .i64 b]) (t := 3) (fr := (0, 0)) (heap_new _ _ _ (by simp))) (by intro u hu; simp at hu; subst hu; rfl) (by omega) (by unfold maxLen; omega) (by omega) (by simp; omega) (w.heap.size + 4) (by simp) ?_; intro g cg w5 hown5 hgrow5 hlies hg5; have hAn : (Value.slice ps m cs).ownBlock ≠ some w.heap.size := (fun e => by have := hlt.out _ e; omega); have hRn : (Value.slice ps m cs).ownBlock ≠ some (w.heap.size + 1 + 1) := (fun e => by have := hlt.out _ e; omega); have xA5 : w5.heap[w.heap.size]? = some (.cells #[.int .i64 cls, .int .i64 (wt + pw), .slice ps m cs] 74 (0, 0)) := ((hgrow5.block _ (by simp; omega) (fun e => hAn e.symm)).trans ((heap_old _ _ _ (by simp; omega)).trans ((heap_old _ _ _ (by simp; omega)).trans ((heap_old _ _ _ (by simp)).trans (heap_new _ _ _ rfl))))); have xR5 : w5.heap[w.heap.size + 1 + 1]? = some (.cells #[.int .i64 0, .int .i64 0, .slice none 0 0] 74 (0, 0)) := ((hgrow5.block _ (by simp) (fun e => hRn e.symm)).trans ((heap_old _ _ _ (by simp)).trans (heap_new _ _ _ (by simp)))); have xA6 := blk_set (o := 2) xA5 (.slice (some ⟨g, 0, none⟩) (m + 1) cg); have xR6 : (w5.setCell ⟨w.heap.size, 2, none⟩ (.slice (some ⟨g, 0, none⟩) (m + 1) cg)).heap[w.heap.size + 1 + 1]? = some (.cells #[.int .i64 0, .int .i64 0, .slice none 0 0] 74 (0, 0)) := (Below.heap_setCell _ _ _ _ (by show w.heap.size + 1 + 1 ≠ w.heap.size; omega)).trans xR5; obtain ⟨q0, q1, q2, f0, f1, f2⟩ := cells3W xA5; obtain ⟨y0, y1, y2, -, -, -⟩ := cells3W (a := .int .i64 cls) (b := .int .i64 (wt + pw)) (c := .slice (some ⟨g, 0, none⟩) (m + 1) cg) xA6; obtain ⟨z0, z1, z2, e0, e1, e2⟩ := cells3W xR6)
  obtain ⟨u0, u1, u2, -, -, -⟩ := cells3W (set3W xR6 (.int .i64 cls) (.int .i64 (wt + pw)) (.slice (some ⟨g, 0, none⟩) (m + 1) cg))
  refine bodyPost_ret (v := .agg #[.int .i64 cls, .int .i64 (wt + pw), .slice (some ⟨g, 0, none⟩) (m + 1) cg]) (by simp [results, Try.results77, go_sem, u0, u1, u2]) rfl ⟨g, cg, rfl, ?_, ?_, ?_⟩
  · have hgA : (Value.slice (some ⟨g, 0, none⟩) (m + 1) cg).ownBlock ≠ some w.heap.size := fun e => by
      injection e with e
      rcases hlies with h | h
      · have h' : (Value.slice ps m cs).ownBlock = some g := h
        have e' : g = w.heap.size := e
        exact hAn (by rw [h', e'])
      · simp at e; omega
    have hgR : (Value.slice (some ⟨g, 0, none⟩) (m + 1) cg).ownBlock ≠ some (w.heap.size + 1 + 1) := fun e => by
      injection e with e
      rcases hlies with h | h
      · have h' : (Value.slice ps m cs).ownBlock = some g := h
        have e' : g = w.heap.size + 1 + 1 := e
        exact hRn (by rw [h', e'])
      · simp at e; omega
    rw [HXL.out]
    exact own_set (own_set (own_set (own_set hown5 hgA _) hgR _) hgR _) hgR _
  · have h4 := (((World.grownBy_alloc w (.cells #[.int .i64 cls, .int .i64 (wt + pw), .slice ps m cs] 74) (Value.slice ps m cs).ownBlock).trans (World.grownBy_alloc _ (.cells #[.int .i64 b, .int .i64 pw, .int .i64 pc] 62) _)).trans (World.grownBy_alloc _ (.cells #[.int .i64 0, .int .i64 0, .slice none 0 0] 74) _)).trans (World.grownBy_alloc _ (.cells #[.int .i64 b] 3) _)
    exact grown_setN (grown_setN (grown_setN (grown_setN (h4.trans hgrow5) (Nat.le_refl _) _) (by show w.heap.size ≤ w.heap.size + 1 + 1; omega) _) (by show w.heap.size ≤ w.heap.size + 1 + 1; omega) _) (by show w.heap.size ≤ w.heap.size + 1 + 1; omega) _
  · rcases hlies with h | h
    · exact .inl h
    · exact .inr (by omega)

set_option maxRecDepth 100000 in
set_option maxHeartbeats 4000000 in
theorem iNewBox_any (b pw pc : Int) (hw : IntKind.i64.wrap pw = pw) (B : Nat) (w : World) (hB : B ≤ w.heap.size) :
    Calls Try.prog 76 #[.agg #[.int .i64 b, .int .i64 pw, .int .i64 pc]] w fun e w' => ∃ g c, e = .returned (.agg #[.int .i64 pc, .int .i64 pw, .slice (some ⟨g, 0, none⟩) 1 c]) ∧ w'.ownsRow B 3 1 (.slice (some ⟨g, 0, none⟩) 1 c) 1 [.int .i64 b] ∧ Below w.heap.size w w' ∧ w.heap.size ≤ g := by
  have ck := cellsBox
  have cp := cellsPiece
  have hcall := Lib.hid (fun W (hW : B ≤ W.heap.size) => iWithPiece_any pc 0 (.slice none 0 0) [] (by simp) b pw pc (by rw [Int.zero_add]; exact hw) B W hW (World.ownsRow_nil W B _ 1))
  simp only [Int.zero_add] at hcall
  have hres := Lib.hid (heap_new (w.alloc (.cells #[.int .i64 b, .int .i64 pw, .int .i64 pc] 62)) (.cells #[.int .i64 0, .int .i64 0, .slice none 0 0] 74) (w.heap.size + 1) (by simp))
  go_enter Try.func76, Try.ntmps76
  go_wp2_with (go_at_call 77; refine (hcall.out _ (by simp; omega)).mono ?_; rintro e w2 ⟨g, c, rfl, ho, hg, hl⟩; have hb2 : Below w.heap.size w w2 := ((Below.refl _ _).alloc (Nat.le_refl _) _).alloc (by simp) _ |>.trans ⟨hg.os, hg.tape, hg.output, hg.size, fun k hk => hg.block k (by simp; omega) (fun e => by cases e)⟩; have x2 : w2.heap[w.heap.size + 1]? = some (.cells #[.int .i64 0, .int .i64 0, .slice none 0 0] 74 (0, 0)) := (hg.block _ (by simp) (fun e => by cases e)).trans hres.out; obtain ⟨z0, z1, z2, e0, e1, e2⟩ := cells3W x2)
  obtain ⟨u0, u1, u2, -, -, -⟩ := cells3W (set3W x2 (.int .i64 pc) (.int .i64 pw) (.slice (some ⟨g, 0, none⟩) 1 c))
  have hgw : w.heap.size + 2 ≤ g := by rcases hl with h | h; cases h; simpa using h
  refine bodyPost_ret (v := .agg #[.int .i64 pc, .int .i64 pw, .slice (some ⟨g, 0, none⟩) 1 c]) (by simp [results, Try.results76, go_sem, u0, u1, u2]) rfl ⟨g, c, rfl, ?_, ?_, by omega⟩
  · have hgR : (Value.slice (some ⟨g, 0, none⟩) 1 c).ownBlock ≠ some (w.heap.size + 1) := fun e => by injection e with e; simp at e; omega
    exact own_set (own_set (own_set ho hgR _) hgR _) hgR _
  · exact ((hb2.setCell (by show w.heap.size ≤ w.heap.size + 1; omega) _).setCell (by show w.heap.size ≤ w.heap.size + 1; omega) _).setCell (by show w.heap.size ≤ w.heap.size + 1; omega) _

end Go.Proofs.Ytnkhjlpeeljelaa
