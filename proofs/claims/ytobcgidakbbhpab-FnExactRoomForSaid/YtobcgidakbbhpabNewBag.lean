/- The model's least new bag: l02New. -/
import Derived.Test.YtobcgidakbbhpabSBeltOk
namespace Go.Proofs.Ytobcgidakbbhpab
open Go.RowKit
set_option linter.unusedVariables false

theorem new_lt (z : Nat → Int) : ∀ (n : Nat) (b : Int), (∀ x : Int, 1 ≤ x → x < b → ∃ j, j < n ∧ z (j * 3) = x) → b ≤ (n : Int) + 1 := by
  intro n
  induction n generalizing z with
  | zero => intro b h; apply Classical.byContradiction; intro hb; obtain ⟨j, hj, -⟩ := h 1 (by omega) (by omega); omega
  | succ n ih =>
    intro b h
    -- strike the item n: shift the numbers above its bag
    obtain ⟨q, hq⟩ : ∃ q, q = z (n * 3) := ⟨_, rfl⟩
    have h2 := ih (fun i => if z i < q then z i else z i - 1) (b - 1) (fun x h0 h1 => by
      by_cases hx : x < q
      · obtain ⟨j, hj, he⟩ := h x h0 (by omega)
        refine ⟨j, ?_, ?_⟩
        · rcases Nat.lt_or_ge j n with h9 | h9
          · exact h9
          · obtain rfl : j = n := by omega
            omega
        · show (if z (j * 3) < q then z (j * 3) else z (j * 3) - 1) = x
          rw [he, if_pos hx]
      · obtain ⟨j, hj, he⟩ := h (x + 1) (by omega) (by omega)
        refine ⟨j, ?_, ?_⟩
        · rcases Nat.lt_or_ge j n with h9 | h9
          · exact h9
          · obtain rfl : j = n := by omega
            omega
        · show (if z (j * 3) < q then z (j * 3) else z (j * 3) - 1) = x
          rw [he, if_neg (by omega)]; omega)
    omega

set_option maxRecDepth 100000 in
set_option maxHeartbeats 4000000 in
theorem newBag_any (n : Nat) (hn : n ≤ 1048576) (z : Nat → Int) (p : Option Addr) (c g o : Nat) (L G : Int) (H : Bool) (w : World) (h : FlatAt w 0 w.heap.size p g o (n * 3) (fun j => .int .i64 (z j))) :
    Calls Try.prog 90 #[.agg #[.int .i64 L, .int .i64 G, .bool H, .slice p n c]] w fun e w' => (∃ b : Int, e = .returned (.int .i64 b) ∧ 1 ≤ b ∧ b ≤ (n : Int) + 1 ∧ ∀ j, j < n → z (j * 3) ≠ b) ∧ Below w.heap.size w w' := by
  have HF := Lib.hid h
  have c3 := cellsItemS
  clear h
  go_enter Try.func90, Try.ntmps90
  go_wp2_with fail
  go_loopw [3] (fun bv wr => ∃ b : Nat, 1 ≤ b ∧ b ≤ n + 1 ∧ bv = .int .i64 (b : Int) ∧ Hid (∀ x : Int, 1 ≤ x → x < (b : Int) → ∃ j, j < n ∧ z (j * 3) = x) ∧ Below (w.heap.size + 1) (w.alloc (.cells #[.int .i64 L, .int .i64 G, .bool H, .slice p n c] 28)) wr) (fun bv _ => n + 1 - (intOf bv).toNat)
  case atStart => exact ⟨1, by omega, by omega, rfl, fun x h0 h1 => absurd h1 (by omega), Below.refl _ _⟩
  case round =>
    obtain ⟨b, hb1, hbn, rfl, HM, hbr⟩ := hrel
    have HBR := Lib.hid hbr
    have hxr := Lib.hid ((hbr.block w.heap.size (by omega)).trans (heap_new _ _ _ rfl))
    have hsr : w.heap.size + 1 ≤ wr.heap.size := by have := hbr.size; simpa using this
    have hw1 : IntKind.i64.wrap ((b : Int) + 1) = (b : Int) + 1 := IntWalk.i64_in _ (by omega)
    obtain ⟨wo, rfl⟩ : ∃ wo, wo = wr := ⟨_, rfl⟩
    clear hbr
    go_wp2_with fail
    go_loopw [4, 5] (fun tv iv wr => ∃ (i : Nat) (t : Bool), i ≤ n ∧ iv = .int .i64 (i : Int) ∧ tv = .bool t ∧ (t = true ↔ ∃ j, j < i ∧ z (j * 3) = (b : Int)) ∧ Below wo.heap.size wo wr) (fun _ iv _ => n - (intOf iv).toNat)
    case atStart => exact ⟨0, false, by omega, rfl, rfl, ⟨fun h => absurd h (by decide), fun ⟨j, hj, _⟩ => absurd hj (by omega)⟩, Below.refl _ _⟩
    case round =>
      obtain ⟨i, t, hi, rfl, rfl, ht, hb2⟩ := hrel
      have hx2 := Lib.hid ((hb2.block w.heap.size (by omega)).trans hxr.out)
      obtain ⟨x0, x1, x2, x3, -, -, -, -⟩ := cells4 hx2.out
      have HB2 := Lib.hid hb2
      have HTT := Lib.hid ht
      clear ht
      by_cases hin : i < n
      · obtain ⟨rfl, -, hg⟩ := HF.out.1 (by omega)
        have a0 : wr.cell? ⟨g, o + i * 3, none⟩ = some (.int .i64 (z (i * 3))) := (hb2.cell (p := ⟨g, o + i * 3, none⟩) (by show g < _; omega)).trans ((HBR.out.cell (p := ⟨g, o + i * 3, none⟩) (by show g < _; omega)).trans ((World.cell?_of_block (a := ⟨g, o + i * 3, none⟩) (heap_old w _ g hg)).trans (HF.out.int (i * 3) (by omega))))
        obtain ⟨q, hq⟩ : ∃ q, q = z (i * 3) := ⟨_, rfl⟩
        rw [← hq] at a0
        have HQ := Lib.hid hq
        have hi0 : (0 : Int) ≤ (i : Int) := by omega
        have hil : (i : Int) < (n : Int) := by omega
        have hwi : IntKind.i64.wrap ((i : Int) + 1) = (i : Int) + 1 := IntWalk.i64_in _ (by omega)
        clear hb2 hq
        cases t with
        | true =>
          go_wp2_with fail
          go_roundw
          case rel => exact ⟨i + 1, true, by omega, by congr 1, rfl, ⟨fun _ => by obtain ⟨j, hj, e⟩ := HTT.out.1 rfl; exact ⟨j, by omega, e⟩, fun _ => rfl⟩, HB2.out⟩
          case measure => simp only [intOf]; omega
        | false =>
          by_cases hqb : q = (b : Int)
          · have hd : (q == (b : Int)) = true := by rw [hqb]; simp
            have HQB := Lib.hid hqb
            clear hqb
            go_wp2_with fail
            go_roundw
            case rel => exact ⟨i + 1, true, by omega, by congr 1, by first | rfl | (congr 1), ⟨fun _ => ⟨i, by omega, by rw [← HQ.out, HQB.out]⟩, fun _ => rfl⟩, HB2.out⟩
            case measure => simp only [intOf]; omega
          · have hd : (q == (b : Int)) = false := by simpa using hqb
            have HQB := Lib.hid hqb
            clear hqb
            go_wp2_with fail
            go_roundw
            case rel => exact ⟨i + 1, false, by omega, by congr 1, by first | rfl | (congr 1), ⟨fun h => absurd h (by decide), fun ⟨j, hj, e⟩ => by
              by_cases ej : j = i
              · subst ej; rw [← HQ.out] at e; exact absurd e HQB.out
              · exact HTT.out.2 ⟨j, by omega, e⟩⟩, HB2.out⟩
            case measure => simp only [intOf]; omega
      · obtain rfl : i = n := by omega
        cases t with
        | true =>
          have hM2 : ∀ x : Int, 1 ≤ x → x < ((b + 1 : Nat) : Int) → ∃ j, j < i ∧ z (j * 3) = x := fun x h0 h1 => by
            by_cases e : x = (b : Int)
            · rw [e]; exact HTT.out.1 rfl
            · exact HM.out x h0 (by omega)
          have hle := new_lt z i _ hM2
          have HM2 := Lib.hid hM2
          clear hM2 hb2
          go_wp2_with fail
          go_roundw
          case rel => exact ⟨b + 1, by omega, by omega, by congr 1, HM2.out, HBR.out.trans (HB2.out.mono (by omega))⟩
          case measure => simp only [intOf]; omega
        | false =>
          clear hb2
          go_wp2_with fail
          go_ret
          refine ⟨⟨b, rfl, by omega, by omega, fun j hj e => ?_⟩, ?_⟩
          · have := HTT.out.2 ⟨j, hj, e⟩; cases this
          · exact ((Below.refl _ _).alloc (Nat.le_refl _) _).trans ((HBR.out.trans (HB2.out.mono (by omega))).mono (by omega))

end Go.Proofs.Ytobcgidakbbhpab
