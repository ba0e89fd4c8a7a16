/- The first box that takes a piece: the library's IndexFunc with the program's closure. -/
import Derived.Test.YtnkhjlpeeljelaaFitPlain
import Derived.Test.YtnkhjlpeeljelaaRowPiece
import Derived.Deep.LoopGhost
import Derived.OwnWalk
import Derived.IntWalk
import Derived.Shelf.Abstract
namespace Go.Proofs.Ytnkhjlpeeljelaa
open Go.RowKit Go.Shelf
set_option linter.unusedVariables false

theorem cells2X {w : World} {k : Nat} {a b : Value} {t : TypeId} (h : w.heap[k]? = some (.cells #[a, b] t (0, 0))) : w.cell? ⟨k, 0, none⟩ = some a ∧ w.cell? ⟨k, 1, none⟩ = some b :=
  ⟨by simp [World.cell?, h], by simp [World.cell?, h]⟩
theorem cells3X {w : World} {k : Nat} {a b c : Value} {t : TypeId} (h : w.heap[k]? = some (.cells #[a, b, c] t (0, 0))) : w.cell? ⟨k, 0, none⟩ = some a ∧ w.cell? ⟨k, 1, none⟩ = some b ∧ w.cell? ⟨k, 2, none⟩ = some c :=
  ⟨by simp [World.cell?, h], by simp [World.cell?, h], by simp [World.cell?, h]⟩

theorem takes_at {W C cls wt : Int} {pb : Option Addr} {k cb : Nat} {b pw pc : Int} {t : Bool} (ht : tkB W C cls wt k pw pc = t) (h1 : -1000000 ≤ wt ∧ wt ≤ 1000000) (h2 : -1000000 ≤ pw ∧ pw ≤ 1000000) (gl gp : Nat) (w : World) (hl : w.heap[gl]? = some (.cells #[.int .i64 W, .int .i64 C] 25 (0, 0))) (hp : w.heap[gp]? = some (.cells #[.int .i64 b, .int .i64 pw, .int .i64 pc] 62 (0, 0))) :
    Calls Try.prog 74 #[.agg #[.int .i64 cls, .int .i64 wt, .slice pb k cb], .pointer (some ⟨gl, 0, none⟩), .pointer (some ⟨gp, 0, none⟩)] w fun e w' => e = .returned (.bool t) ∧ Below w.heap.size w w' := by
  have ck := cellsBox
  have cp := cellsPiece
  have hcall := Lib.hid (fun V => iHasRoom_any W C cls wt pb k cb b pw pc h1 h2 V)
  rw [ht] at hcall
  have hbA : Below w.heap.size w (w.alloc (.cells #[.int .i64 cls, .int .i64 wt, .slice pb k cb] 74)) := (Below.refl _ _).alloc (Nat.le_refl _) _
  obtain ⟨q0, q1⟩ := cells2X (blk_later hl hbA)
  obtain ⟨r0, r1, r2⟩ := cells3X (blk_later hp hbA)
  have HBA := Lib.hid hbA
  clear hbA hl hp
  go_enter Try.func74, Try.ntmps74
  go_wp2_with (go_at_call 75; refine (hcall.out _).mono ?_; rintro e w2 ⟨rfl, hb⟩)
  go_ret
  exact ⟨rfl, HBA.out.trans (hb.mono HBA.out.size)⟩

set_option maxRecDepth 100000 in
set_option maxHeartbeats 2000000 in
theorem boxIx_any (n : Nat) (hn : n ≤ 1048576) (p : Option Addr) (c G : Nat) (cl wt : Nat → Int) (pp : Nat → Option Addr) (ll cc : Nat → Nat) (W C b pw pc : Int) (h2 : -1000000 ≤ pw ∧ pw ≤ 1000000) (gl gp : Nat) (w : World)
    (hG : 0 < n → p = some ⟨G, 0, none⟩ ∧ G < w.heap.size) (hc : ∀ i, i < n → w.cell? ⟨G, i * 3, none⟩ = some (.int .i64 (cl i)) ∧ w.cell? ⟨G, i * 3 + 1, none⟩ = some (.int .i64 (wt i)) ∧ w.cell? ⟨G, i * 3 + 2, none⟩ = some (.slice (pp i) (ll i) (cc i)))
    (hwt : ∀ i, i < n → -1000000 ≤ wt i ∧ wt i ≤ 1000000) (hl : w.heap[gl]? = some (.cells #[.int .i64 W, .int .i64 C] 25 (0, 0))) (hp : w.heap[gp]? = some (.cells #[.int .i64 b, .int .i64 pw, .int .i64 pc] 62 (0, 0))) (r : Int) (hr : IxR n (fun i => tkB W C (cl i) (wt i) (ll i) pw pc) r) :
    Calls Try.prog 73 #[.slice p n c, .func (.func 74) #[] #[.pointer (some ⟨gl, 0, none⟩), .pointer (some ⟨gp, 0, none⟩)]] w fun e w' => e = .returned (.int .i64 r) ∧ Below w.heap.size w w' := by
  have eg : ∀ args w, (callFunc 74 args).run Try.prog w = .ok (.enter 74 args) w := enters_of Try.func74 (by kernel_rfl) rfl
  have ck := cellsBox
  have HG := Lib.hid hG
  have HC := Lib.hid hc
  have HR := Lib.hid hr
  have HL := Lib.hid hl
  have HP := Lib.hid hp
  have HWT := Lib.hid hwt
  clear hG hc hr hl hp hwt
  go_enter Try.func73, Try.ntmps73
  go_wp2_with fail
  go_loopw [8] (fun v wr => ∃ k : Nat, k ≤ n ∧ v = .int .i64 (k : Int) ∧ Below w.heap.size w wr ∧ Hid (∀ j, j < k → tkB W C (cl j) (wt j) (ll j) pw pc = false)) (fun v _ => n - (intOf v).toNat)
  case atStart => exact ⟨0, by omega, rfl, Below.refl _ _, fun j hj => absurd hj (by omega)⟩
  case round =>
    obtain ⟨k, hk, rfl, hbw, HN⟩ := hrel
    by_cases hkn : k < n
    · obtain ⟨rfl, hg⟩ := HG.out (by omega)
      obtain ⟨a0, a1, a2⟩ := HC.out k hkn
      have b0 := (hbw.cell (p := ⟨G, k * 3, none⟩) hg).trans a0
      have b1 := (hbw.cell (p := ⟨G, k * 3 + 1, none⟩) hg).trans a1
      have b2 := (hbw.cell (p := ⟨G, k * 3 + 2, none⟩) hg).trans a2
      have hk0 : (0 : Int) ≤ (k : Int) := by omega
      have hkl : (k : Int) < (n : Int) := by omega
      have hwk : IntKind.i64.wrap ((k : Int) + 1) = (k : Int) + 1 := IntWalk.i64_in _ (by omega)
      rcases Bool.eq_false_or_eq_true (tkB W C (cl k) (wt k) (ll k) pw pc) with hx | hx
      · have hcall := Lib.hid (takes_at (pb := pp k) (cb := cc k) (b := b) hx (HWT.out k hkn) h2 gl gp wr (blk_later HL.out hbw) (blk_later HP.out hbw))
        have hik : r = (k : Int) := by
          rcases HR.out with ⟨k', h1, e, h3, h4⟩ | ⟨-, h1⟩
          · rw [e]
            rcases Nat.lt_trichotomy k k' with hl | hl | hl
            · exact absurd (hx.symm.trans (h4 k hl)) (by decide)
            · rw [hl]
            · exact absurd (h3.symm.trans (HN.out k' hl)) (by decide)
          · exact absurd (hx.symm.trans (h1 k hkn)) (by decide)
        have HIK := Lib.hid hik
        clear hx hik a0 a1 a2
        go_wp2_with (go_at_fn 74; refine hcall.out.mono ?_; rintro e w2 ⟨rfl, hb2⟩)
        go_ret
        exact ⟨by rw [HIK.out]; first | done | rfl, hbw.trans (hb2.mono hbw.size)⟩
      · have hcall := Lib.hid (takes_at (pb := pp k) (cb := cc k) (b := b) hx (HWT.out k hkn) h2 gl gp wr (blk_later HL.out hbw) (blk_later HP.out hbw))
        have HX := Lib.hid hx
        clear hx a0 a1 a2
        go_wp2_with (go_at_fn 74; refine hcall.out.mono ?_; rintro e w2 ⟨rfl, hb2⟩)
        go_roundw
        case rel => exact ⟨k + 1, by omega, by congr 1, hbw.trans (hb2.mono hbw.size), fun j hj => by
          by_cases e : j = k
          · subst e; exact HX.out
          · exact HN.out j (by omega)⟩
        case measure => simp only [intOf]; omega
    · obtain rfl : k = n := by omega
      have hik : r = -1 := by
        rcases HR.out with ⟨k', h1, e, h3, -⟩ | ⟨e, -⟩
        · exact absurd (h3.symm.trans (HN.out k' h1)) (by decide)
        · exact e
      have HIK := Lib.hid hik
      clear hik
      go_wp2_with fail
      go_ret
      exact ⟨by rw [HIK.out]; first | done | rfl, hbw⟩

end Go.Proofs.Ytnkhjlpeeljelaa
