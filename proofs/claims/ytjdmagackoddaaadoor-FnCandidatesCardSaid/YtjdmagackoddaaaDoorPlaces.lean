/- What unknownPlaces leaves. -/
import Derived.Test.YtjdmagackoddaaaDoorCandState
import Derived.Test.YtjdmagackoddaaaDoorChecked
import Derived.Deep.LoopGhost
import Derived.Lib.OthersKept
namespace Go.Proofs.YtjdmagackoddaaaDoor
open Go.RowKit
set_option linter.unusedVariables false

theorem infoInt : (Tryd.prog.info? 3).map (fun i => (i.zero, i.size, i.bytes)) = some (some (.int .i64 0), 1, 8) := by kernel_rfl

/-- What unknownPlaces leaves for the bytes l. -/
def PlPost (l : List UInt8) (B : Nat) (w : World) (e : Ending) (w' : World) : Prop :=
  ∃ (v : Value) (ok : Bool), e = .returned (.tuple #[v, .bool ok]) ∧ Below B w w' ∧
    ((frm l ∧ ok = true ∧ w'.ownsRow B 3 1 v (placesTo l 12).length ((placesTo l 12).map fun p : Nat => Value.int .i64 (p : Int))) ∨ (¬ frm l ∧ ok = false ∧ v = .slice none 0 0))

theorem own_iter {w : World} {base : Nat} {e : TypeId} {size : Nat} {v : Value} {n : Nat} {xs : List Value} (h : w.ownsRow base e size v n xs) {k : Nat} {s : ByteArray} {p : Nat} (hk : w.heap[k]? = some (.stringIter s p)) (q : Nat) : (w.iterAt k s q).ownsRow base e size v n xs := by
  obtain ⟨h1, h2⟩ := h
  refine ⟨h1, ?_⟩
  rcases h2 with h2 | ⟨g, cap, cur, a, b, c, d⟩
  · exact .inl h2
  · refine .inr ⟨g, cap, cur, a, b, ?_, d⟩
    rw [Lib.iterAt_other _ _ _ _ _ (by intro e; rw [e, hk] at c; cases c)]
    exact c
theorem iter_pos {w : World} {k : Nat} {s : ByteArray} {p : Nat} (h : w.heap[k]? = some (.stringIter s p)) : w.iterPos k = p := by simp [World.iterPos, h]
theorem byte_at (s : ByteArray) (i : Nat) (h : i < s.size) : s.data.toList.getD i 0 = s[i] := by
  rw [List.getD_eq_getElem?_getD, List.getElem?_eq_getElem (by simpa using h)]; rfl
theorem dec_cases (s : ByteArray) (pos : Nat) (h : pos < s.size) : ((s.data.toList.getD pos 0).toNat < 128 ∧ Utf8.decode s pos = ((s.data.toList.getD pos 0).toNat, 1)) ∨ (128 ≤ (s.data.toList.getD pos 0).toNat ∧ 128 ≤ (Utf8.decode s pos).1) := by
  rw [byte_at s pos h]
  by_cases ha : s[pos].toNat < 128
  · exact .inl ⟨ha, decode_ascii s pos h ha⟩
  · exact .inr ⟨by omega, (decode_high s pos h (by omega)).1⟩

/-- The byte at i is as the form asks. -/
def okAt (l : List UInt8) (i : Nat) : Prop := (i = 10 → l.getD i 0 = 45) ∧ (i ≠ 10 → l.getD i 0 = 63 ∨ isD (l.getD i 0))
theorem frm_okAt {l : List UInt8} (h : frm l) (i : Nat) (hi : i < 12) : okAt l i := ⟨fun e => by rw [e]; exact h.2.1, fun e => h.2.2.1 i hi e⟩
/-- What next brings, by what the byte is. -/
theorem next_ok (s : ByteArray) (pos : Nat) (h : pos < s.size) (hk : okAt s.data.toList pos) : Utf8.decode s pos = ((s.data.toList.getD pos 0).toNat, 1) := by
  rcases dec_cases s pos h with ⟨_, e⟩ | ⟨e, _⟩
  · exact e
  · exfalso
    by_cases h10 : pos = 10
    · rw [hk.1 h10] at e; exact absurd e (by decide)
    · rcases hk.2 h10 with k | k
      · rw [k] at e; exact absurd e (by decide)
      · have := k.2; omega

set_option maxRecDepth 1000000 in
set_option maxHeartbeats 2000000 in
theorem places_any (s : ByteArray) (hsz : s.size ≤ 1048576) (w : World) :
    Calls Tryd.prog 24 #[.string s] w (PlPost s.data.toList w.heap.size w) := by
  obtain ⟨i0, hi, hz0, hz1, hz2⟩ := info_parts infoInt
  have hlen : s.data.toList.length = s.size := by simp
  by_cases h12 : s.size = 12
  · have hs1 : s.size ≤ 12 := by omega
    go_enter Tryd.func24, Tryd.ntmps24
    go_wp2
    go_loopw [4] (fun v wr => ∃ (pos : Nat), pos ≤ 12 ∧ wr.heap[w.heap.size + 1]? = some (.stringIter s pos) ∧ wr.ownsRow w.heap.size 3 1 v (placesTo s.data.toList pos).length ((placesTo s.data.toList pos).map fun p : Nat => Value.int .i64 (p : Int)) ∧ Below w.heap.size w wr ∧ Hid (∀ i, i < pos → okAt s.data.toList i)) (fun _ wr => s.size - wr.iterPos (w.heap.size + 1))
    case atStart =>
      refine ⟨0, by omega, ?_, ?_, ((Below.refl _ w).alloc (Nat.le_refl _) _).alloc (by simp) _, fun i hi => absurd hi (by omega)⟩
      · have := World.iter_heap (w.alloc (.cells #[] 3)) s 0
        simpa using this
      · have := (World.ownsRow_made (e := 3) (size := 1) w #[] 0 (Nat.le_refl _) (by unfold maxLen; omega) rfl).alloc (.stringIter s 0)
        exact this
    case round =>
      obtain ⟨pos, hp12, hit, hown, hbw, HOK⟩ := hrel
      have hpos0 := iter_pos hit
      have hszr : w.heap.size + 1 < wr.heap.size := (Array.getElem?_eq_some_iff.1 hit).1
      by_cases hp : pos < s.size
      · have hnx : ∀ ty, (Instr.next (.pointer (some ⟨w.heap.size + 1, 0, none⟩)) true ty).run Tryd.prog wr = _ := fun ty => Lib.run_next_any_at wr (w.heap.size + 1) s pos ty hit hp
        have hpl := placesTo_le s.data.toList pos
        by_cases hk : okAt s.data.toList pos
        · have hd := next_ok s pos hp hk
          rw [hd] at hnx
          simp only [] at hnx
          have hit2 := Lib.iterAt_heap wr (w.heap.size + 1) s pos (pos + 1) hit
          have hbw2 := Lib.below_iterAt hbw (k := w.heap.size + 1) (by omega) s (pos + 1)
          have hown2 := own_iter hown hit (pos + 1)
          obtain ⟨W1, hW1⟩ : ∃ W1, W1 = wr.iterAt (w.heap.size + 1) s (pos + 1) := ⟨_, rfl⟩
          rw [← hW1] at hnx hit2 hbw2 hown2
          have hszr2 : w.heap.size + 1 < W1.heap.size := (Array.getElem?_eq_some_iff.1 hit2).1
          have HOK2 : Hid (∀ i, i < pos + 1 → okAt s.data.toList i) := fun i hi => by
            by_cases e : i = pos
            · rw [e]; exact hk
            · exact HOK.out i (by omega)
          clear HOK hW1 hit hown hbw
          by_cases h10 : pos = 10
          · have hb := hk.1 h10
            subst h10
            have hpq : placesTo s.data.toList (10 + 1) = placesTo s.data.toList 10 := by
              rw [placesTo_succ, if_neg (by unfold isQ; rw [hb]; decide), List.append_nil]
            rw [hb] at hnx
            rw [← hpq] at hown2
            have HQ := Lib.hid hpq
            clear hpq hk hd hb
            go_wp2
            go_roundw
            case rel => exact ⟨10 + 1, by omega, hit2, hown2, hbw2, HOK2⟩
            case measure => rw [iter_pos hit2, hpos0]; omega
          · rcases hk.2 h10 with hb | hb
            · have hpq : placesTo s.data.toList (pos + 1) = placesTo s.data.toList pos ++ [pos] := by
                rw [placesTo_succ, if_pos (by unfold isQ; rw [hb]; decide)]
              rw [hb] at hnx
              have hne : ((pos : Int) == 10) = false := by rw [beq_eq_false_iff_ne]; omega
              have hne2 : decide ((pos : Int) = 10) = false := decide_eq_false (by omega)
              have HQ := Lib.hid hpq
              clear hpq hk hd hb
              go_wp2_with (at_builtin; refine wpList_append_own _ rfl _ _ 45 rfl w.heap.size 3 i0 (.int .i64 0) 1 8 Tryd.underlying45 hi hz0 hz1 hz2 rfl (by decide) _ (placesTo s.data.toList pos).length _ rfl (hown2.alloc _) ⟨W1.heap.size, 0, none⟩ 1 1 [.int .i64 (pos : Int)] rfl rfl (by intro j u hj; match j, hj with | 0, hj => simp at hj; subst hj; simp [Addr.add]) (by intro u hu; simp at hu; rcases hu with rfl; rfl) (by unfold maxLen; omega) (by omega) (by simp; omega) ?_; intro v' w3 hown3 hgrow3 _)
              have hit3 : w3.heap[w.heap.size + 1]? = some (.stringIter s (pos + 1)) := by
                have hob : some (w.heap.size + 1) ≠ u4.ownBlock := by
                  intro h
                  rcases hown2.2 with ⟨h0, _⟩ | ⟨g, cap, cur, h0, _, hg, _⟩
                  · rw [h0] at h; simp [Value.ownBlock] at h
                  · rw [h0] at h; simp [Value.ownBlock] at h; rw [← h, hit2] at hg; cases hg
                rw [hgrow3.block (w.heap.size + 1) (by simp; omega) hob, Below.heap_alloc _ _ _ hszr2]
                exact hit2
              have hbw3 : Below w.heap.size w w3 := (hbw2.alloc (by omega) _).grown hgrow3 (by simp; omega) (fun j hj => (hown2.lt j hj).1)
              have hxs : ((placesTo s.data.toList pos).map fun p : Nat => Value.int .i64 (p : Int)) ++ [.int .i64 (pos : Int)] = (placesTo s.data.toList (pos + 1)).map fun p : Nat => Value.int .i64 (p : Int) := by rw [HQ.out]; simp
              have hns : (placesTo s.data.toList pos).length + 1 = (placesTo s.data.toList (pos + 1)).length := by rw [HQ.out]; simp
              rw [hxs, hns] at hown3
              go_wp2
              go_roundw
              case rel => exact ⟨pos + 1, by omega, hit3, hown3, hbw3, HOK2⟩
              case measure => rw [iter_pos hit3, hpos0]; omega
            · have hpq : placesTo s.data.toList (pos + 1) = placesTo s.data.toList pos := by
                rw [placesTo_succ, if_neg (by unfold isQ; intro e; have e2 : s.data.toList.getD pos 0 = 63 := by simpa using e
                                              rw [e2] at hb; exact absurd hb.2 (by decide)), List.append_nil]
              obtain ⟨c, hc⟩ : ∃ c, c = (s.data.toList.getD pos 0).toNat := ⟨_, rfl⟩
              unfold isD at hb
              rw [← hc] at hnx hb
              obtain ⟨hb0, hb1⟩ := hb
              have hne : ((pos : Int) == 10) = false := by rw [beq_eq_false_iff_ne]; omega
              have hne2 : decide ((pos : Int) = 10) = false := decide_eq_false (by omega)
              have hne3 : ((c : Int) == 63) = false := by rw [beq_eq_false_iff_ne]; omega
              have hne4 : decide ((c : Int) = 63) = false := decide_eq_false (by omega)
              rw [← hpq] at hown2
              have HQ := Lib.hid hpq
              clear hpq hk hd hc
              go_wp2
              go_roundw
              case rel => exact ⟨pos + 1, by omega, hit2, hown2, hbw2, HOK2⟩
              case measure => rw [iter_pos hit2, hpos0]; omega
        · have hnf : ¬ frm s.data.toList := fun h => hk (frm_okAt h pos (by omega))
          obtain ⟨r, hr⟩ : ∃ r, r = (Utf8.decode s pos).1 := ⟨_, rfl⟩
          have hrb := decode_le s pos
          rw [← hr] at hnx hrb
          have hbw2 := Lib.below_iterAt hbw (k := w.heap.size + 1) (by omega) s (pos + (Utf8.decode s pos).2)
          obtain ⟨W1, hW1⟩ : ∃ W1, W1 = wr.iterAt (w.heap.size + 1) s (pos + (Utf8.decode s pos).2) := ⟨_, rfl⟩
          rw [← hW1] at hnx hbw2
          have HR : (pos = 10 ∧ r ≠ 45) ∨ (pos ≠ 10 ∧ r ≠ 63 ∧ (r < 48 ∨ 57 < r)) := by
            rcases dec_cases s pos hp with ⟨h1, h2⟩ | ⟨h1, h2⟩
            · rw [h2] at hr
              simp only [] at hr
              by_cases h10 : pos = 10
              · refine .inl ⟨h10, fun e => hk ⟨fun _ => ?_, fun h => absurd h10 h⟩⟩
                rw [h10] at hr
                apply UInt8.toNat_inj.1; rw [h10, ← hr, e]; rfl
              · refine .inr ⟨h10, fun e => hk ⟨fun h => absurd h h10, fun _ => .inl ?_⟩, ?_⟩
                · apply UInt8.toNat_inj.1; rw [← hr, e]; rfl
                · by_cases hh : r < 48 ∨ 57 < r
                  · exact hh
                  · refine absurd ⟨fun h => absurd h h10, fun _ => .inr ?_⟩ hk
                    unfold isD; rw [← hr]; omega
            · rw [← hr] at h2
              by_cases h10 : pos = 10
              · exact .inl ⟨h10, by omega⟩
              · exact .inr ⟨h10, by omega, by omega⟩
          clear hk hr hW1 hit hown hbw HOK
          rcases HR with ⟨h10, h45⟩ | ⟨h10, h63, h48 | h57⟩
          · subst h10
            have hne3 : ((r : Int) == 45) = false := by rw [beq_eq_false_iff_ne]; omega
            have hne4 : decide ((r : Int) = 45) = false := decide_eq_false (by omega)
            go_wp2
            go_ret2
            exact ⟨_, _, rfl, hbw2, .inr ⟨hnf, rfl, rfl⟩⟩
          · have hne : ((pos : Int) == 10) = false := by rw [beq_eq_false_iff_ne]; omega
            have hne2 : decide ((pos : Int) = 10) = false := decide_eq_false (by omega)
            have hne3 : ((r : Int) == 63) = false := by rw [beq_eq_false_iff_ne]; omega
            have hne4 : decide ((r : Int) = 63) = false := decide_eq_false (by omega)
            go_wp2
            go_ret2
            exact ⟨_, _, rfl, hbw2, .inr ⟨hnf, rfl, rfl⟩⟩
          · have hne : ((pos : Int) == 10) = false := by rw [beq_eq_false_iff_ne]; omega
            have hne2 : decide ((pos : Int) = 10) = false := decide_eq_false (by omega)
            have hne3 : ((r : Int) == 63) = false := by rw [beq_eq_false_iff_ne]; omega
            have hne4 : decide ((r : Int) = 63) = false := decide_eq_false (by omega)
            go_wp2
            go_ret2
            exact ⟨_, _, rfl, hbw2, .inr ⟨hnf, rfl, rfl⟩⟩
      · have hnx : ∀ ty, (Instr.next (.pointer (some ⟨w.heap.size + 1, 0, none⟩)) true ty).run Tryd.prog wr = _ := fun ty => Lib.run_next_end_at wr (w.heap.size + 1) s pos ty hit hp
        obtain rfl : pos = 12 := by omega
        have hform : frm s.data.toList ↔ (placesTo s.data.toList 12).length ≤ 3 := ⟨fun h => h.2.2.2, fun h => ⟨by omega, (HOK.out 10 (by omega)).1 rfl, fun i hi hn => (HOK.out i hi).2 hn, h⟩⟩
        have HF := Lib.hid hform
        obtain ⟨n, hn⟩ : ∃ n, n = (placesTo s.data.toList 12).length := ⟨_, rfl⟩
        rw [← hn] at hown
        have hown0 := hown
        have HN := Lib.hid hn
        obtain ⟨p, cap, rfl⟩ : ∃ p cap, u4 = .slice p n cap := by
          rcases hown.2 with ⟨rfl, rfl⟩ | ⟨g, cap, cur, rfl, -⟩
          · exact ⟨_, _, rfl⟩
          · exact ⟨_, _, rfl⟩
        have hnl : n ≤ 12 := by rw [hn]; exact placesTo_le _ _
        clear hform HOK hn hit
        by_cases h3 : n ≤ 3
        · go_wp2
          go_ret2
          exact ⟨_, _, rfl, hbw, .inl ⟨HF.out.2 (by rw [← HN.out]; exact h3), rfl, by rw [← HN.out]; exact hown0⟩⟩
        · go_wp2
          go_ret2
          exact ⟨_, _, rfl, hbw, .inr ⟨fun h => h3 (by rw [HN.out]; exact HF.out.1 h), rfl, rfl⟩⟩
  · have hne : decide ((s.size : Int) = 12) = false := decide_eq_false (by omega)
    have hne2 : ((s.size : Int) == 12) = false := by rw [beq_eq_false_iff_ne]; omega
    go_enter Tryd.func24, Tryd.ntmps24
    go_wp2
    go_ret2
    exact ⟨_, _, rfl, Below.refl _ _, .inr ⟨fun h => h12 (by have := h.1; omega), rfl, rfl⟩⟩

end Go.Proofs.YtjdmagackoddaaaDoor
