/- A box with a piece more: what the model's l07With returns. -/
import Derived.Test.YtnkhjlpeeljelaaWithPiece
import Derived.Deep.RegionHeld3
namespace Go.Proofs.Ytnkhjlpeeljelaa
open Go.RowKit
set_option linter.unusedVariables false

set_option maxRecDepth 100000 in
set_option maxHeartbeats 8000000 in
theorem sWith_nil (cls wt : Int) (b pw pc : Int) (hw : IntKind.i64.wrap (wt + pw) = wt + pw) (w : World) :
    Calls Try.prog 72 #[.agg #[.int .i64 cls, .int .i64 wt, .slice none 0 0], .agg #[.int .i64 b, .int .i64 pw, .int .i64 pc]] w fun e w' => ∃ g c, e = .returned (.agg #[.int .i64 pc, .int .i64 (wt + pw), .slice (some ⟨g, 0, none⟩) 1 c]) ∧ w'.ownsRow w.heap.size 3 1 (.slice (some ⟨g, 0, none⟩) 1 c) 1 [.int .i64 b] ∧ Below w.heap.size w w' := by
  obtain ⟨i0, hi, hz0, hz1, hz2⟩ := info_parts infoIntW
  have ck := cellsBox
  have cp := cellsPiece
  obtain ⟨w1, hw1⟩ : ∃ x, x = w.alloc (.cells #[.int .i64 cls, .int .i64 wt, .slice none 0 0] 74) := ⟨_, rfl⟩
  obtain ⟨w2, hw2⟩ : ∃ x, x = w1.alloc (.cells #[.int .i64 b, .int .i64 pw, .int .i64 pc] 62) := ⟨_, rfl⟩
  obtain ⟨w3, hw3⟩ : ∃ x, x = w2.alloc (.cells #[.int .i64 0, .int .i64 0, .slice none 0 0] 74) := ⟨_, rfl⟩
  have S1 : w1.heap.size = w.heap.size + 1 := by rw [hw1]; simp
  have S2 : w2.heap.size = w.heap.size + 2 := by rw [hw2]; simp [S1]
  have S3 : w3.heap.size = w.heap.size + 3 := by rw [hw3]; simp [S2]
  have hB1 : Below w.heap.size w w1 := by rw [hw1]; exact (Below.refl _ _).alloc (Nat.le_refl _) _
  have hB2 : Below w.heap.size w w2 := by rw [hw2]; exact hB1.alloc hB1.size _
  have B3 := Lib.hid (show Below w.heap.size w w3 from by rw [hw3]; exact hB2.alloc hB2.size _)
  have X1 := Lib.hid (show w3.heap[w.heap.size]? = some (.cells #[.int .i64 cls, .int .i64 wt, .slice none 0 0] 74 (0, 0)) from by rw [hw3]; exact (heap_old _ _ _ (by omega)).trans (by rw [hw2]; exact (heap_old _ _ _ (by omega)).trans (by rw [hw1]; exact heap_new _ _ _ rfl)))
  have X2 := Lib.hid (show w3.heap[w.heap.size + 1]? = some (.cells #[.int .i64 b, .int .i64 pw, .int .i64 pc] 62 (0, 0)) from by rw [hw3]; exact (heap_old _ _ _ (by omega)).trans (by rw [hw2]; exact heap_new _ _ _ S1.symm))
  have X3 := Lib.hid (show w3.heap[w.heap.size + 2]? = some (.cells #[.int .i64 0, .int .i64 0, .slice none 0 0] 74 (0, 0)) from by rw [hw3]; exact heap_new _ _ _ S2.symm)
  have HW := Lib.hid (show ((w.alloc (.cells #[.int .i64 cls, .int .i64 wt, .slice none 0 0] 74)).alloc (.cells #[.int .i64 b, .int .i64 pw, .int .i64 pc] 62)).alloc (.cells #[.int .i64 0, .int .i64 0, .slice none 0 0] 74) = w3 from by rw [hw3, hw2, hw1])
  clear hw1 hw2 hw3 hB1 hB2
  have hK := Lib.hid (fun K (hK : Below (w.heap.size + 2) w3 K) => show K.cell? ⟨w.heap.size, 1, none⟩ = some (.int .i64 wt) ∧ K.cell? ⟨w.heap.size, 2, none⟩ = some (.slice none 0 0) ∧ K.cell? ⟨w.heap.size + 1, 0, none⟩ = some (.int .i64 b) ∧ K.cell? ⟨w.heap.size + 1, 1, none⟩ = some (.int .i64 pw) ∧ K.cell? ⟨w.heap.size + 1, 2, none⟩ = some (.int .i64 pc) from by
    obtain ⟨-, y1, y2, -, -, -⟩ := cells3W ((hK.block w.heap.size (by omega)).trans X1.out)
    obtain ⟨q0, q1, q2, -, -, -⟩ := cells3W ((hK.block (w.heap.size + 1) (by omega)).trans X2.out)
    exact ⟨y1, y2, q0, q1, q2⟩)
  have OE := Lib.hid (fun (V : World) (X : Nat) (hX : X = V.heap.size) (hV : w.heap.size ≤ X) => show (V.alloc (.cells #[] 3)).ownsRow w.heap.size 3 1 (.slice (some ⟨X, 0, none⟩) 0 0) 0 [] from ⟨rfl, .inr ⟨X, 0, #[], rfl, hV, heap_new _ _ _ hX, Nat.le_refl _, by decide, by simp, by simp⟩⟩)
  have D0 : Below (w.heap.size + 2) w3 w3 := Below.refl _ _
  go_enter Try.func72, Try.ntmps72
  go_wp2_with fail
  rw [HW.out]
  go_region_held3 (fun K => K.cell? ⟨w.heap.size, 1, none⟩ = some (.int .i64 wt) ∧ K.cell? ⟨w.heap.size, 2, none⟩ = some (.slice none 0 0) ∧ K.cell? ⟨w.heap.size + 1, 0, none⟩ = some (.int .i64 b) ∧ K.cell? ⟨w.heap.size + 1, 1, none⟩ = some (.int .i64 pw) ∧ K.cell? ⟨w.heap.size + 1, 2, none⟩ = some (.int .i64 pc))
    (first | exact hK.out _ (by repeat (first | assumption | exact Below.refl _ _ | refine Below.alloc ?_ (by first | (simp; done) | omega | (simp; omega)) _ | refine Below.drew ?_ | refine Below.setCell ?_ (by first | (simp; done) | omega | (simp; omega)) _)) | go_keep)
    ((show if Region.wanted ⟨some 19, _, _, _, _, _⟩ _ = true then _ else _; refine step_append_lies _ (by rfl) (Operand.tmp 15) (Operand.tmp 18) _ (by rfl) w.heap.size 3 i0 (.int .i64 0) 1 8 Try.underlying35 hi hz0 hz1 hz2 rfl (by decide) (.slice (some ⟨_, 0, none⟩) 0 0) 0 [] (by rfl) (by first | exact OE.out _ _ (by first | (simp; done) | omega | (simp; omega)) (by first | (simp; done) | omega | (simp; omega)) | exact (OE.out _ _ (by first | (simp; done) | omega | (simp; omega)) (by first | (simp; done) | omega | (simp; omega))).alloc _) _ 1 1 [.int .i64 b] (by rfl) (by rfl) (by first | exact World.news_of_block (cs := #[.int .i64 b]) (t := 3) (fr := (0, 0)) (heap_new _ _ _ (by first | (simp; done) | omega | (simp; omega))) | exact World.news_of_block (cs := #[.int .i64 b]) (t := 3) (fr := (0, 0)) ((heap_old _ _ _ (by first | (simp; done) | omega | (simp; omega))).trans (heap_new _ _ _ (by first | (simp; done) | omega | (simp; omega))))) (by intro u hu; simp at hu; subst hu; rfl) (by omega) (by unfold maxLen; omega) (by omega) (by first | (simp; done) | omega | (simp; omega)) _ rfl ?_; intro g5 c5 w5 hown5 hgrow5 hlies5 hlt5; have D5 : Below (w.heap.size + 2) w3 w5 := Below.grown (by repeat (first | assumption | exact Below.refl _ _ | refine Below.alloc ?_ (by first | (simp; done) | omega | (simp; omega)) _ | refine Below.drew ?_ | refine Below.setCell ?_ (by first | (simp; done) | omega | (simp; omega)) _)) hgrow5 (by first | (simp; done) | omega | (simp; omega)) (fun q hq => by simp [Value.ownBlock] at hq <;> omega); have x5 : w5.heap[w.heap.size + 1 + 1]? = some (.cells #[.int .i64 0, .int .i64 0, .slice none 0 0] 74 (0, 0)) := (hgrow5.block _ (by first | (simp; done) | omega | (simp; omega)) (fun e => by simp [Value.ownBlock] at e <;> omega)).trans ((heap_old _ _ _ (by first | (simp; done) | omega | (simp; omega))).trans ((heap_old _ _ _ (by first | (simp; done) | omega | (simp; omega))).trans X3.out)); obtain ⟨z0, z1, z2, f0, f1, f2⟩ := cells3W x5))
  all_goals
    have hgl : w.heap.size + 3 ≤ g5 := by
      rcases hlies5 with h | h <;> first | omega | (simp [Value.ownBlock] at h <;> omega)
    obtain ⟨u0, u1, u2, -, -, -⟩ := cells3W (set3W x5 (.int .i64 pc) (.int .i64 (wt + pw)) (.slice (some ⟨g5, 0, none⟩) 1 c5))
    have hgR : (Value.slice (some ⟨g5, 0, none⟩) 1 c5).ownBlock ≠ some (w.heap.size + 1 + 1) := fun e => by
      have e' : g5 = w.heap.size + 1 + 1 := by injection e
      omega
    have HOW : Hid (w5.ownsRow w.heap.size 3 1 (.slice (some ⟨g5, 0, none⟩) 1 c5) 1 [.int .i64 b]) := hown5
    have HD := Lib.hid D5
    clear hown5 hgrow5 hlies5 D5
    go_wp2_with fail
    refine bodyPost_ret (v := .agg #[.int .i64 pc, .int .i64 (wt + pw), .slice (some ⟨g5, 0, none⟩) 1 c5]) (by simp [results, Try.results72, go_sem, u0, u1, u2]) rfl ⟨g5, c5, rfl, ?_, ?_⟩
    · exact own_set (own_set (own_set HOW.out hgR _) hgR _) hgR _
    · have hb5 := B3.out.trans (HD.out.mono (by omega))
      exact ((hb5.setCell (by show w.heap.size ≤ w.heap.size + 1 + 1; omega) _).setCell (by show w.heap.size ≤ w.heap.size + 1 + 1; omega) _).setCell (by show w.heap.size ≤ w.heap.size + 1 + 1; omega) _

set_option maxRecDepth 100000 in
set_option maxHeartbeats 8000000 in
theorem sWith_some (cls wt : Int) (sa : Addr) (m sc : Nat) (hm0 : 0 < m) (hm : m ≤ 1048576) (l : List Int) (hl : l.length = m) (b pw pc : Int) (hw : IntKind.i64.wrap (wt + pw) = wt + pw) (w : World) (hsrc : ∀ j u, (l.map (Value.int .i64))[j]? = some u → w.cell? (sa.add j) = some u) (hsb : sa.block < w.heap.size) :
    Calls Try.prog 72 #[.agg #[.int .i64 cls, .int .i64 wt, .slice (some sa) m sc], .agg #[.int .i64 b, .int .i64 pw, .int .i64 pc]] w fun e w' => ∃ g c, e = .returned (.agg #[.int .i64 pc, .int .i64 (wt + pw), .slice (some ⟨g, 0, none⟩) (m + 1) c]) ∧ w'.ownsRow w.heap.size 3 1 (.slice (some ⟨g, 0, none⟩) (m + 1) c) (m + 1) ((l ++ [b]).map (.int .i64)) ∧ Below w.heap.size w w' := by
  obtain ⟨i0, hi, hz0, hz1, hz2⟩ := info_parts infoIntW
  have ck := cellsBox
  have cp := cellsPiece
  obtain ⟨w1, hw1⟩ : ∃ x, x = w.alloc (.cells #[.int .i64 cls, .int .i64 wt, .slice (some sa) m sc] 74) := ⟨_, rfl⟩
  obtain ⟨w2, hw2⟩ : ∃ x, x = w1.alloc (.cells #[.int .i64 b, .int .i64 pw, .int .i64 pc] 62) := ⟨_, rfl⟩
  obtain ⟨w3, hw3⟩ : ∃ x, x = w2.alloc (.cells #[.int .i64 0, .int .i64 0, .slice none 0 0] 74) := ⟨_, rfl⟩
  have S1 : w1.heap.size = w.heap.size + 1 := by rw [hw1]; simp
  have S2 : w2.heap.size = w.heap.size + 2 := by rw [hw2]; simp [S1]
  have S3 : w3.heap.size = w.heap.size + 3 := by rw [hw3]; simp [S2]
  have hB1 : Below w.heap.size w w1 := by rw [hw1]; exact (Below.refl _ _).alloc (Nat.le_refl _) _
  have hB2 : Below w.heap.size w w2 := by rw [hw2]; exact hB1.alloc hB1.size _
  have B3 := Lib.hid (show Below w.heap.size w w3 from by rw [hw3]; exact hB2.alloc hB2.size _)
  have X1 := Lib.hid (show w3.heap[w.heap.size]? = some (.cells #[.int .i64 cls, .int .i64 wt, .slice (some sa) m sc] 74 (0, 0)) from by rw [hw3]; exact (heap_old _ _ _ (by omega)).trans (by rw [hw2]; exact (heap_old _ _ _ (by omega)).trans (by rw [hw1]; exact heap_new _ _ _ rfl)))
  have X2 := Lib.hid (show w3.heap[w.heap.size + 1]? = some (.cells #[.int .i64 b, .int .i64 pw, .int .i64 pc] 62 (0, 0)) from by rw [hw3]; exact (heap_old _ _ _ (by omega)).trans (by rw [hw2]; exact heap_new _ _ _ S1.symm))
  have X3 := Lib.hid (show w3.heap[w.heap.size + 2]? = some (.cells #[.int .i64 0, .int .i64 0, .slice none 0 0] 74 (0, 0)) from by rw [hw3]; exact heap_new _ _ _ S2.symm)
  have HW := Lib.hid (show ((w.alloc (.cells #[.int .i64 cls, .int .i64 wt, .slice (some sa) m sc] 74)).alloc (.cells #[.int .i64 b, .int .i64 pw, .int .i64 pc] 62)).alloc (.cells #[.int .i64 0, .int .i64 0, .slice none 0 0] 74) = w3 from by rw [hw3, hw2, hw1])
  clear hw1 hw2 hw3 hB1 hB2
  have hK := Lib.hid (fun K (hK : Below (w.heap.size + 2) w3 K) => show K.cell? ⟨w.heap.size, 1, none⟩ = some (.int .i64 wt) ∧ K.cell? ⟨w.heap.size, 2, none⟩ = some (.slice (some sa) m sc) ∧ K.cell? ⟨w.heap.size + 1, 0, none⟩ = some (.int .i64 b) ∧ K.cell? ⟨w.heap.size + 1, 1, none⟩ = some (.int .i64 pw) ∧ K.cell? ⟨w.heap.size + 1, 2, none⟩ = some (.int .i64 pc) from by
    obtain ⟨-, y1, y2, -, -, -⟩ := cells3W ((hK.block w.heap.size (by omega)).trans X1.out)
    obtain ⟨q0, q1, q2, -, -, -⟩ := cells3W ((hK.block (w.heap.size + 1) (by omega)).trans X2.out)
    exact ⟨y1, y2, q0, q1, q2⟩)
  obtain ⟨news, hnews⟩ : ∃ news, news = l.map (Value.int .i64) := ⟨_, rfl⟩
  rw [← hnews] at hsrc
  have HLEN := Lib.hid (show news.length = m * 1 by rw [hnews, List.length_map, hl, Nat.mul_one])
  have HONE : Hid (∀ u ∈ news, u.oneCell' = true) := by
    intro u hu
    rw [hnews] at hu
    obtain ⟨j, -, rfl⟩ := List.mem_map.1 hu
    rfl
  have HXL := Lib.hid (show (l ++ [b]).map (Value.int .i64) = news ++ [.int .i64 b] by rw [hnews, List.map_append]; rfl)
  have HSRC := Lib.hid (fun K (hK : Below (w.heap.size + 2) w3 K) j u (hu : news[j]? = some u) => show K.cell? (sa.add j) = some u from by
    have h1 := hsrc j u hu
    have hbl : (sa.add j).block = sa.block := by unfold Addr.add; split <;> rfl
    exact (hK.cell (p := sa.add j) (by rw [hbl]; omega)).trans ((B3.out.cell (p := sa.add j) (by rw [hbl]; exact hsb)).trans h1))
  clear hsrc hnews hl
  have OE := Lib.hid (fun (V : World) (X : Nat) (hX : X = V.heap.size) (hV : w.heap.size ≤ X) => show (V.alloc (.cells #[] 3)).ownsRow w.heap.size 3 1 (.slice (some ⟨X, 0, none⟩) 0 0) 0 [] from ⟨rfl, .inr ⟨X, 0, #[], rfl, hV, heap_new _ _ _ hX, Nat.le_refl _, by decide, by simp, by simp⟩⟩)
  have D0 : Below (w.heap.size + 2) w3 w3 := Below.refl _ _
  go_enter Try.func72, Try.ntmps72
  go_wp2_with fail
  rw [HW.out]
  go_region_held3 (fun K => K.cell? ⟨w.heap.size, 1, none⟩ = some (.int .i64 wt) ∧ K.cell? ⟨w.heap.size, 2, none⟩ = some (.slice (some sa) m sc) ∧ K.cell? ⟨w.heap.size + 1, 0, none⟩ = some (.int .i64 b) ∧ K.cell? ⟨w.heap.size + 1, 1, none⟩ = some (.int .i64 pw) ∧ K.cell? ⟨w.heap.size + 1, 2, none⟩ = some (.int .i64 pc))
    (first | exact hK.out _ (by repeat (first | assumption | exact Below.refl _ _ | refine Below.alloc ?_ (by first | (simp; done) | omega | (simp; omega)) _ | refine Below.drew ?_ | refine Below.setCell ?_ (by first | (simp; done) | omega | (simp; omega)) _)) | go_keep)
    (first
      | (show if Region.wanted ⟨some 15, _, _, _, _, _⟩ _ = true then _ else _; refine step_append_lies _ (by rfl) (Operand.tmp 12) (Operand.tmp 14) _ (by rfl) w.heap.size 3 i0 (.int .i64 0) 1 8 Try.underlying35 hi hz0 hz1 hz2 rfl (by decide) (.slice (some ⟨_, 0, none⟩) 0 0) 0 [] (by rfl) (by first | exact OE.out _ _ (by first | (simp; done) | omega | (simp; omega)) (by first | (simp; done) | omega | (simp; omega)) | exact (OE.out _ _ (by first | (simp; done) | omega | (simp; omega)) (by first | (simp; done) | omega | (simp; omega))).alloc _) sa m sc news (by rfl) HLEN.out (HSRC.out _ (by repeat (first | assumption | exact Below.refl _ _ | refine Below.alloc ?_ (by first | (simp; done) | omega | (simp; omega)) _ | refine Below.drew ?_ | refine Below.setCell ?_ (by first | (simp; done) | omega | (simp; omega)) _))) HONE.out hm0 (by unfold maxLen; omega) (by omega) (by first | (simp; done) | omega | (simp; omega)) _ rfl ?_; intro g4 c4 w4 hown4 hgrow4 hlies4 hlt4; rw [Nat.zero_add, List.nil_append] at hown4; rw [Nat.zero_add]; have D4 : Below (w.heap.size + 2) w3 w4 := Below.grown (by repeat (first | assumption | exact Below.refl _ _ | refine Below.alloc ?_ (by first | (simp; done) | omega | (simp; omega)) _ | refine Below.drew ?_ | refine Below.setCell ?_ (by first | (simp; done) | omega | (simp; omega)) _)) hgrow4 (by first | (simp; done) | omega | (simp; omega)) (fun q hq => by simp [Value.ownBlock] at hq <;> omega); have s4 := D4.size; have hg4 : w.heap.size + 3 ≤ g4 := (by rcases hlies4 with h | h <;> simp [Value.ownBlock] at h <;> omega); have x4 : w4.heap[w.heap.size + 1 + 1]? = some (.cells #[.int .i64 0, .int .i64 0, .slice none 0 0] 74 (0, 0)) := (hgrow4.block _ (by first | (simp; done) | omega | (simp; omega)) (fun e => by simp [Value.ownBlock] at e <;> omega)).trans (by first | exact (heap_old _ _ _ (by first | (simp; done) | omega | (simp; omega))).trans ((heap_old _ _ _ (by first | (simp; done) | omega | (simp; omega))).trans X3.out) | exact (heap_old _ _ _ (by first | (simp; done) | omega | (simp; omega))).trans X3.out))
      | (show if Region.wanted ⟨some 19, _, _, _, _, _⟩ _ = true then _ else _; refine step_append_lies _ (by rfl) (Operand.tmp 15) (Operand.tmp 18) _ (by rfl) w.heap.size 3 i0 (.int .i64 0) 1 8 Try.underlying35 hi hz0 hz1 hz2 rfl (by decide) (.slice (some ⟨g4, 0, none⟩) m c4) m news (by rfl) (by first | exact hown4 | exact hown4.alloc _) _ 1 1 [.int .i64 b] (by rfl) (by rfl) (by first | exact World.news_of_block (cs := #[.int .i64 b]) (t := 3) (fr := (0, 0)) (heap_new _ _ _ (by first | (simp; done) | omega | (simp; omega))) | exact World.news_of_block (cs := #[.int .i64 b]) (t := 3) (fr := (0, 0)) ((hgrow4.block _ (by first | (simp; done) | omega | (simp; omega)) (fun e => by simp [Value.ownBlock] at e <;> omega)).trans (by first | exact heap_new _ _ _ (by first | (simp; done) | omega | (simp; omega)) | exact (heap_old _ _ _ (by first | (simp; done) | omega | (simp; omega))).trans (heap_new _ _ _ (by first | (simp; done) | omega | (simp; omega)))))) (by intro u hu; simp at hu; subst hu; rfl) (by omega) (by unfold maxLen; omega) (by omega) (by first | (simp; done) | omega | (simp; omega)) _ rfl ?_; intro g5 c5 w5 hown5 hgrow5 hlies5 hlt5; have D5 : Below (w.heap.size + 2) w3 w5 := Below.grown (by repeat (first | assumption | exact Below.refl _ _ | refine Below.alloc ?_ (by first | (simp; done) | omega | (simp; omega)) _ | refine Below.drew ?_ | refine Below.setCell ?_ (by first | (simp; done) | omega | (simp; omega)) _)) hgrow5 (by first | (simp; done) | omega | (simp; omega)) (fun q hq => by simp [Value.ownBlock] at hq <;> omega); have x5 : w5.heap[w.heap.size + 1 + 1]? = some (.cells #[.int .i64 0, .int .i64 0, .slice none 0 0] 74 (0, 0)) := (hgrow5.block _ (by first | (simp; done) | omega | (simp; omega)) (fun e => by simp [Value.ownBlock] at e <;> omega)).trans (by first | exact x4 | exact (heap_old _ _ _ (by first | (simp; done) | omega | (simp; omega))).trans x4); obtain ⟨z0, z1, z2, f0, f1, f2⟩ := cells3W x5))
  all_goals
    have hgl : w.heap.size + 3 ≤ g5 := by
      rcases hlies5 with h | h <;> first | omega | (simp [Value.ownBlock] at h <;> omega)
    obtain ⟨u0, u1, u2, -, -, -⟩ := cells3W (set3W x5 (.int .i64 pc) (.int .i64 (wt + pw)) (.slice (some ⟨g5, 0, none⟩) (m + 1) c5))
    have hgR : (Value.slice (some ⟨g5, 0, none⟩) (m + 1) c5).ownBlock ≠ some (w.heap.size + 1 + 1) := fun e => by
      have e' : g5 = w.heap.size + 1 + 1 := by injection e
      omega
    have HOW : Hid (w5.ownsRow w.heap.size 3 1 (.slice (some ⟨g5, 0, none⟩) (m + 1) c5) (m + 1) ((l ++ [b]).map (.int .i64))) := (by rw [HXL.out]; exact hown5)
    have HD := Lib.hid D5
    clear hown5 hgrow5 hlies5 D5
    go_wp2_with fail
    refine bodyPost_ret (v := .agg #[.int .i64 pc, .int .i64 (wt + pw), .slice (some ⟨g5, 0, none⟩) (m + 1) c5]) (by simp [results, Try.results72, go_sem, u0, u1, u2]) rfl ⟨g5, c5, rfl, ?_, ?_⟩
    · exact own_set (own_set (own_set HOW.out hgR _) hgR _) hgR _
    · have hb5 := B3.out.trans (HD.out.mono (by omega))
      exact ((hb5.setCell (by show w.heap.size ≤ w.heap.size + 1 + 1; omega) _).setCell (by show w.heap.size ≤ w.heap.size + 1 + 1; omega) _).setCell (by show w.heap.size ≤ w.heap.size + 1 + 1; omega) _

end Go.Proofs.Ytnkhjlpeeljelaa
