/- What the program's Candidates leaves. -/
import Derived.Test.YtjdmagackoddaaaDoorFill
namespace Go.Proofs.YtjdmagackoddaaaDoor
open Go.RowKit
set_option linter.unusedVariables false

set_option maxRecDepth 100000 in
set_option maxHeartbeats 2000000 in
theorem icand_any (s : ByteArray) (hsz : s.size ≤ 1048576) (w : World) (htab : Lib.TabIs Tryd.prog w "internal/strconv.uint64pow10" .u64 Lib.pow10Tab) (hR : ErrIs w "strconv.ErrRange") (hS : ErrIs w "strconv.ErrSyntax") :
    Calls Tryd.prog 9 #[.string s] w (CandPost s.data.toList w.heap.size w) := by
  have hT := Lib.hid (Lib.tabBelow_of_tabIs htab)
  have HR := Lib.hid hR
  have HS := Lib.hid hS
  clear htab hR hS
  have hlen : s.data.toList.length = s.size := by simp
  have hmf : ∀ (fn : Fn) (first cap : Array Value) (w : World), (Instr.makeFunc fn first cap).run Tryd.prog w = .ok (.func fn first cap) w := fun _ _ _ _ => rfl
  go_enter Tryd.func9, Tryd.ntmps9
  go_wp2_with fail
  refine (places_any s hsz _).mono ?_
  rintro e w1 ⟨vP, ok, rfl, hb1, hcase⟩
  rcases hcase with ⟨hf, rfl, hrow⟩ | ⟨hf, rfl, rfl⟩
  · have HF := Lib.hid hf
    have h12 : s.size = 12 := by have := hf.1; omega
    have HRow := Lib.hid hrow
    have hform : ∃ p cap, vP = .slice p (placesTo s.data.toList 12).length cap := by
      rcases hrow.2 with ⟨h1, h2⟩ | ⟨g, cap, cur, h1, -⟩
      · exact ⟨_, _, h1.trans (by rw [h2])⟩
      · exact ⟨_, _, h1⟩
    obtain ⟨pp, cp, rfl⟩ := hform
    obtain ⟨n, hn⟩ : ∃ n, n = (placesTo s.data.toList 12).length := ⟨_, rfl⟩
    rw [← hn]
    rw [← hn] at HRow
    have HN := Lib.hid hn
    clear hf hrow hn
    go_wp2_with fail
    obtain ⟨X, hX⟩ : ∃ X, X = ((w1.alloc (.cells #[.slice pp n cp] 45)).alloc (.cells #[] 29)).alloc (.cells #[.slice (some ⟨w1.heap.size + 1, 0, none⟩) 0 0] 25) := ⟨_, rfl⟩
    rw [← hX]
    have hXs : X.heap.size = w1.heap.size + 3 := by rw [hX]; simp
    obtain ⟨cap, hcap⟩ : ∃ cap, cap = grownCap X s.size 0 5 := ⟨_, rfl⟩
    have hbs : (convert 9 22 (.string s)).run Tryd.prog X = .ok (.slice (some ⟨X.heap.size, 0, none⟩) 12 cap) (Lib.bytesWorld X 5 s) := by
      have := Lib.run_convert_string_bytes (P := Tryd.prog) X 9 22 5 s Tryd.underlying9 Tryd.underlying22 Tryd.underlying5
      rw [h12] at this
      rw [hcap, h12]
      exact this
    have hY0 := Lib.bytesWorld_below X 5 s
    have hY1 := TX_bytes X 5 s h12
    have hY2 := Lib.bytesWorld_at_new X 5 s
    have hYs := Lib.bytesWorld_size X 5 s
    obtain ⟨Y, hY⟩ : ∃ Y, Y = Lib.bytesWorld X 5 s := ⟨_, rfl⟩
    rw [← hY] at hbs hY0 hY1 hY2 hYs
    clear hY hcap
    have HX := Lib.hid hX
    have HY0 := Lib.hid hY0
    have HY1 := Lib.hid hY1
    have HY2 := Lib.hid hY2
    clear hX hY0 hY1 hY2
    rw [hXs] at hbs hYs
    rw [hbs]
    go_wp2_with fail
    obtain ⟨vF, hvF⟩ : ∃ vF, vF = Value.func (.func 25) #[] #[.pointer (some ⟨w1.heap.size, 0, none⟩), .pointer (some ⟨w1.heap.size + 3 + 1, 0, none⟩), .pointer (some ⟨w1.heap.size + 1 + 1, 0, none⟩), .pointer (some ⟨w1.heap.size + 3 + 1 + 1, 0, none⟩)] := ⟨_, rfl⟩
    obtain ⟨Z, hZ⟩ : ∃ Z, Z = (Y.alloc (.cells #[.slice (some ⟨w1.heap.size + 3, 0, none⟩) 12 cap] 22)).alloc (.cells #[.nilFunc] 48) := ⟨_, rfl⟩
    rw [← hvF, ← hZ]
    have hZs : Z.heap.size = w1.heap.size + 6 := by rw [hZ]; simp; omega
    have hZb : Z.heap[w1.heap.size + 3 + 1 + 1]? = some (.cells #[.nilFunc] 48 (0, 0)) := by
      have := heap_alloc_new (Y.alloc (.cells #[.slice (some ⟨w1.heap.size + 3, 0, none⟩) 12 cap] 22)) (.cells #[.nilFunc] 48)
      rw [← hZ] at this
      rw [← this]
      congr 1
      simp
      omega
    have hZc := cell_of_one hZb
    have hZf := free_of_one hZb
    have hst : (store ⟨w1.heap.size + 3 + 1 + 1, 0, none⟩ vF).run Tryd.prog Z = .ok () (Z.setCell ⟨w1.heap.size + 3 + 1 + 1, 0, none⟩ vF) := by rw [hvF, run_store _ _ _ _ _ rfl, hZc, hZf]; rfl
    rw [hst]
    have HZ := Lib.hid hZ
    have HvF := Lib.hid hvF
    have hZb2 := one_setCell (u := vF) hZb
    obtain ⟨W, hW⟩ : ∃ W, W = Z.setCell ⟨w1.heap.size + 3 + 1 + 1, 0, none⟩ vF := ⟨_, rfl⟩
    rw [← hW]
    rw [← hW] at hZb2
    have hWc := cell_of_one hZb2
    rw [hvF] at hWc
    have HW := Lib.hid hW
    have HZb2 := Lib.hid hZb2
    clear hW hvF hZ hst hZb2 hZb hZc hZf
    go_wp2_with fail
    clear hbs
    have hY3 : Y.heap.size = w1.heap.size + 4 := by omega
    have BYW : Below Y.heap.size Y W := by
      rw [HW.out, HZ.out]
      exact (((Below.refl _ _).alloc (Nat.le_refl _) _).alloc (by simp) _).setCell (by simp; omega) _
    have BXW : Below X.heap.size X W := HY0.out.trans (BYW.mono (by omega))
    have B1X : Below w1.heap.size w1 X := by
      rw [HX.out]
      exact (((Below.refl _ _).alloc (Nat.le_refl _) _).alloc (by simp) _).alloc (by simp; omega) _
    have B1W : Below w1.heap.size w1 W := B1X.trans (BXW.mono (by omega))
    have x0 : X.heap[w1.heap.size]? = some (.cells #[.slice pp n cp] 45 (0, 0)) := by
      rw [HX.out, Below.heap_alloc _ _ _ (by simp; omega), Below.heap_alloc _ _ _ (by simp)]
      exact heap_alloc_new w1 _
    have x1 : X.heap[w1.heap.size + 1]? = some (.cells #[] 29 (0, 0)) := by
      rw [HX.out, Below.heap_alloc _ _ _ (by simp)]
      have := heap_alloc_new (w1.alloc (.cells #[.slice pp n cp] 45)) (.cells #[] 29)
      rwa [show (w1.alloc (.cells #[.slice pp n cp] 45)).heap.size = w1.heap.size + 1 by simp] at this
    have x2 : X.heap[w1.heap.size + 1 + 1]? = some (.cells #[.slice (some ⟨w1.heap.size + 1, 0, none⟩) 0 0] 25 (0, 0)) := by
      rw [HX.out]
      have := heap_alloc_new ((w1.alloc (.cells #[.slice pp n cp] 45)).alloc (.cells #[] 29)) (.cells #[.slice (some ⟨w1.heap.size + 1, 0, none⟩) 0 0] 25)
      rwa [show ((w1.alloc (.cells #[.slice pp n cp] 45)).alloc (.cells #[] 29)).heap.size = w1.heap.size + 1 + 1 by simp] at this
    have y4 : W.heap[w1.heap.size + 3 + 1]? = some (.cells #[.slice (some ⟨w1.heap.size + 3, 0, none⟩) 12 cap] 22 (0, 0)) := by
      rw [HW.out, Below.heap_setCell _ _ _ _ (by show w1.heap.size + 3 + 1 ≠ w1.heap.size + 3 + 1 + 1; omega), HZ.out, Below.heap_alloc _ _ _ (by simp; omega)]
      have := heap_alloc_new Y (.cells #[.slice (some ⟨w1.heap.size + 3, 0, none⟩) 12 cap] 22)
      rwa [show Y.heap.size = w1.heap.size + 3 + 1 by omega] at this
    have hw1 : w.heap.size ≤ w1.heap.size := hb1.size
    have hpl := placesTo_lt s.data.toList 12
    have tx := HY1.out
    have yg := HY2.out
    rw [hXs] at tx yg
    have C0 := Lib.hid (show CI { w0 := w, bP := w1.heap.size, bT := w1.heap.size + 3 + 1, bL := w1.heap.size + 1 + 1, bF := w1.heap.size + 3 + 1 + 1, g := w1.heap.size + 3, capT := cap, tP := 45, tT := 22, tL := 25, tF := 48, vP := .slice pp n cp, vF := vF, ps := placesTo s.data.toList 12 } s.data.toList [] (.slice (some ⟨w1.heap.size + 1, 0, none⟩) 0 0) W from
      { bel := hb1.trans (B1W.mono hw1)
        hP := (BXW.block _ (by first | omega | (dsimp only; omega))).trans x0
        rP := by
          have := own_below HRow.out B1W
          rw [HN.out] at this
          exact HN.out ▸ this
        hT := y4
        tx := tx.below BYW (by first | omega | (dsimp only; omega))
        kg := ⟨_, _, (BYW.block _ (by first | omega | (dsimp only; omega))).trans yg⟩
        hF := HZb2.out
        hL := (BXW.block _ (by first | omega | (dsimp only; omega))).trans x2
        rL := ⟨rfl, .inr ⟨w1.heap.size + 1, 0, #[], rfl, by first | omega | (dsimp only; omega), (BXW.block _ (by first | omega | (dsimp only; omega))).trans x1, Nat.le_refl _, by decide, rfl, rfl⟩⟩ })
    clear x0 x1 x2 y4 tx yg
    refine (fill_any _ ⟨by show w.heap.size ≤ w1.heap.size + 1 + 1; omega, by show w.heap.size ≤ w1.heap.size + 3; omega, by show w1.heap.size ≠ w1.heap.size + 1 + 1; omega, by show w1.heap.size + 3 + 1 ≠ w1.heap.size + 1 + 1; omega, by show w1.heap.size + 3 + 1 + 1 ≠ w1.heap.size + 1 + 1; omega, by show w1.heap.size + 3 ≠ w1.heap.size + 1 + 1; omega, by show w1.heap.size ≠ w1.heap.size + 3; omega, by show w1.heap.size + 3 + 1 ≠ w1.heap.size + 3; omega, by show w1.heap.size + 3 + 1 + 1 ≠ w1.heap.size + 3; omega, by dsimp only; decide, by dsimp only; decide, by dsimp only; decide, by dsimp only; decide, by dsimp only; decide, hpl, HF.out.2.2.2⟩ HvF.out hT.out HR.out HS.out (placesTo s.data.toList 12).length 0 (by simp) _ _ _ _ C0.out (by
      have h3 := HF.out.2.2.2
      have : 10 ^ (placesTo s.data.toList 12).length ≤ 10 ^ 3 := Nat.pow_le_pow_right (by decide) h3
      simpa using this)).mono ?_
    rintro e w2 ⟨rfl, hs2, b2, vL2, C2, -⟩
    have hcL := cell_of_one C2.hL
    have HC2 := Lib.hid C2
    clear C2
    go_wp2_with fail
    go_ret2
    refine ⟨_, (cands s.data.toList).length, (cands s.data.toList).flatMap tagCell, true, rfl, ?_, HC2.out.bel, .inl ⟨HF.out, rfl, rfl, rfl⟩⟩
    exact HC2.out.rL
  · go_wp2_with fail
    go_ret2
    exact ⟨_, 0, [], false, rfl, World.ownsRow_nil _ _ _ _, hb1.alloc hb1.size _, .inr ⟨hf, rfl, rfl, rfl⟩⟩

end Go.Proofs.YtjdmagackoddaaaDoor
