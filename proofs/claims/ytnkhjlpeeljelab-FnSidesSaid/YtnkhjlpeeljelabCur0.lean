/- The draws' cursor: what l01Byte and l01Below leave. -/
import Derived.Test.YtnkhjlpeeljelabSmall
import Derived.Test.YtnkhjlpeeljelabFlat
import Derived.Test.YtnkhjlpeeljelabChecked
import Derived.Laws.Bits128
import Derived.BigQuiet
import Derived.Deep.QuietTactic
import Derived.WalkSmall
import Derived.OwnWalk
import Derived.Maps.AppendAt
namespace Go.Proofs.Ytnkhjlpeeljelab
open Go.RowKit
set_option linter.unusedVariables false

theorem and255 (n : Int) : bits .and .i64 n 255 = n % 256 := by
  have h255 : (BitVec.ofInt 64 255).toNat = 2 ^ 8 - 1 := by decide
  have key : (BitVec.ofInt 64 n &&& BitVec.ofInt 64 255).toNat = (n % ((2 ^ 64 : Nat) : Int)).toNat % 2 ^ 8 := by
    rw [BitVec.toNat_and, BitVec.toNat_ofInt, h255, Nat.and_two_pow_sub_one_eq_mod]
  show IntKind.i64.wrap ((BitVec.ofInt 64 n &&& BitVec.ofInt 64 255).toNat : Nat) = n % 256
  rw [key, IntKind.wrap_i64]
  omega
theorem grown_set (w : World) (g o : Nat) (v : Value) : w.grownBy (w.setCell ⟨g, o, none⟩ v) (some g) :=
  ⟨rfl, rfl, rfl, by simp [World.setCell], fun k _ hne => Below.heap_setCell _ _ _ _ (by intro e; exact hne (by rw [e]))⟩
theorem grown_drewN (w : World) (n : Nat) (row : Option Nat) : w.grownBy (w.drewN n) row := ⟨rfl, rfl, rfl, Nat.le_refl _, fun _ _ _ => rfl⟩

/-- A code of n bytes that can be read; its cells lie below B. -/
def Code (B n : Nat) (w : World) (p : Option Addr) (gc oc : Nat) : Prop :=
  (0 < n → p = some ⟨gc, oc, none⟩ ∧ gc < B) ∧ ∀ j, j < n → ∃ x : Nat, x < 256 ∧ w.cell? ⟨gc, oc + j, none⟩ = some (.int .u8 (x : Int))
/-- Block g is a cursor over such a code. -/
structure Cu (B n : Nat) (p : Option Addr) (cap gc oc : Nat) (w : World) (g : Nat) : Prop where
  base : B ≤ g
  code : Code B n w p gc oc
  blk : ∃ (i : Nat) (h : Int) (t : TypeId), i ≤ n ∧ w.heap[g]? = some (.cells #[.slice p n cap, .int .i64 (i : Int), .int .i64 h] t (0, 0))
theorem Cu.lt {B n : Nat} {p : Option Addr} {cap gc oc : Nat} {w : World} {g : Nat} (h : Cu B n p cap gc oc w g) : g < w.heap.size := by
  obtain ⟨i, k, t, _, hb⟩ := h.blk
  exact (Array.getElem?_eq_some_iff.1 hb).1
/-- Whatever leaves the cursor's block and what lies below B as they were. -/
theorem Cu.kept {B n : Nat} {p : Option Addr} {cap gc oc : Nat} {w w' : World} {g : Nat} (h : Cu B n p cap gc oc w g) (hg : w'.heap[g]? = w.heap[g]?) (hB : ∀ k, k < B → w'.heap[k]? = w.heap[k]?) : Cu B n p cap gc oc w' g := by
  refine ⟨h.base, ⟨h.code.1, fun j hj => ?_⟩, ?_⟩
  · obtain ⟨x, hx, hc⟩ := h.code.2 j hj
    exact ⟨x, hx, (World.cell?_of_block (a := ⟨gc, oc + j, none⟩) (hB gc (h.code.1 (by omega)).2)).trans hc⟩
  · obtain ⟨i, k, t, hi, hb⟩ := h.blk
    exact ⟨i, k, t, hi, hg.trans hb⟩
theorem Cu.below {B n : Nat} {p : Option Addr} {cap gc oc : Nat} {w w' : World} {g : Nat} (h : Cu B n p cap gc oc w g) (hb : Below w.heap.size w w') : Cu B n p cap gc oc w' g :=
  h.kept (hb.block g h.lt) (fun k hk => hb.block k (Nat.lt_trans (Nat.lt_of_lt_of_le hk h.base) h.lt))
theorem Cu.grown {B n : Nat} {p : Option Addr} {cap gc oc : Nat} {w w' : World} {g : Nat} {row : Option Nat} (h : Cu B n p cap gc oc w g) (hb : w.grownBy w' row) (h1 : some g ≠ row) (h2 : ∀ k, row = some k → B ≤ k) : Cu B n p cap gc oc w' g :=
  h.kept (hb.block g h.lt h1) (fun k hk => hb.block k (Nat.lt_trans (Nat.lt_of_lt_of_le hk h.base) h.lt) (fun e => by have := h2 k e.symm; omega))

/-- What a draw leaves: a number below m; the cursor is a cursor still, and nothing else has been written. -/
def DrawPost (B n : Nat) (p : Option Addr) (cap gc oc : Nat) (w : World) (g m : Nat) (e : Ending) (w' : World) : Prop :=
  ∃ x : Nat, x < m ∧ e = .returned (.int .i64 (x : Int)) ∧ Cu B n p cap gc oc w' g ∧ w.grownBy w' (some g)

set_option maxRecDepth 100000 in
set_option maxHeartbeats 2000000 in
theorem byte_any {B n : Nat} {p : Option Addr} {cap gc oc : Nat} {w : World} {g : Nat} (hn : n ≤ 1048576) (h : Cu B n p cap gc oc w g) :
    Calls Try.prog 71 #[.pointer (some ⟨g, 0, none⟩)] w (DrawPost B n p cap gc oc w g 256) := by
  obtain ⟨i, k, t, hi, hb⟩ := h.blk
  have hlt := h.lt
  have c0 : w.cell? ⟨g, 0, none⟩ = some (.slice p n cap) := by simp [World.cell?, hb]
  have c1 : w.cell? ⟨g, 1, none⟩ = some (.int .i64 (i : Int)) := by simp [World.cell?, hb]
  have c2 : w.cell? ⟨g, 2, none⟩ = some (.int .i64 k) := by simp [World.cell?, hb]
  have f1 : w.frozen? ⟨g, 1, none⟩ = false := by simp [World.frozen?, hb]
  have f2 : w.frozen? ⟨g, 2, none⟩ = false := by simp [World.frozen?, hb]
  have HB := Lib.hid hb
  have H := Lib.hid h
  clear hb h
  go_enter Try.func71, Try.ntmps71
  go_wp2_with fail
  obtain ⟨k1, hk1⟩ : ∃ k1, k1 = wrap64 (wrap64 (k * 6364136223846793005) + 1442695040888963407) := ⟨_, rfl⟩
  rw [← hk1]
  clear hk1
  have hb1 := blk_set (o := 2) HB.out (.int .i64 k1)
  have g1 := grown_set w g 2 (.int .i64 k1)
  obtain ⟨w1, hw1⟩ : ∃ w1, w1 = w.setCell ⟨g, 2, none⟩ (.int .i64 k1) := ⟨_, rfl⟩
  rw [← hw1] at hb1 g1 ⊢
  have H1 : Hid (Code B n w1 p gc oc) := ⟨H.out.code.1, fun j hj => by
    obtain ⟨x, hx, hc⟩ := H.out.code.2 j hj
    exact ⟨x, hx, (World.cell?_of_block (a := ⟨gc, oc + j, none⟩) (g1.block gc (by have := (H.out.code.1 (by omega)).2; have := H.out.base; omega) (by intro e; injection e with e; have := (H.out.code.1 (by omega)).2; have := H.out.base; omega))).trans hc⟩⟩
  have d0 : w1.cell? ⟨g, 0, none⟩ = some (.slice p n cap) := by simp [World.cell?, hb1]
  have d1 : w1.cell? ⟨g, 1, none⟩ = some (.int .i64 (i : Int)) := by simp [World.cell?, hb1]
  have d2 : w1.cell? ⟨g, 2, none⟩ = some (.int .i64 k1) := by simp [World.cell?, hb1]
  have e1 : w1.frozen? ⟨g, 1, none⟩ = false := by simp [World.frozen?, hb1]
  have HB1 := Lib.hid hb1
  have G1 := Lib.hid g1
  clear hw1 hb1 g1 c0 c1 c2 f1 f2 HB
  go_quiet (fail)
  obtain ⟨x0, hx0⟩ : ∃ x0 : Nat, (x0 : Int) = bits .and .i64 (bits .xor .i64 (k1 / 8589934592) (k1 / 35184372088832)) 255 ∧ x0 < 256 := by
    rw [and255]
    exact ⟨((bits .xor .i64 (k1 / 8589934592) (k1 / 35184372088832)) % 256).toNat, by omega, by omega⟩
  go_wp2_with fail
  rw [← hx0.1]
  have hx := hx0.2
  clear hx0
  by_cases hin : i < n
  · obtain ⟨rfl, hgB⟩ := H1.out.1 (by omega)
    obtain ⟨x1, hx1, hc1⟩ := H1.out.2 i hin
    have hii : (i : Int) < (n : Int) := by omega
    have hi0 : (0 : Int) ≤ (i : Int) := by omega
    have hd : decide ((i : Int) < (n : Int)) = true := decide_eq_true hii
    have hdN : decide (i < n) = true := decide_eq_true hin
    go_quiet (fail)
    go_wp2_with fail
    go_quiet (fail)
    obtain ⟨y, hy, hyb⟩ : ∃ y : Nat, (y : Int) = bits .and .i64 ((x0 : Int) + (x1 : Int)) 255 ∧ y < 256 := by
      rw [and255]
      exact ⟨(x0 + x1) % 256, by omega, by omega⟩
    have e2 := blk_set (o := 1) HB1.out (.int .i64 ((i : Int) + 1))
    have E2 := Lib.hid e2
    have HY := Lib.hid hy
    clear e2 hy
    go_wp2_with fail
    go_ret
    have HF : Cu B n (some ⟨gc, oc, none⟩) cap gc oc (w1.setCell ⟨g, 1, none⟩ (.int .i64 ((i : Int) + 1))) g := by
      refine ⟨H.out.base, ⟨H1.out.1, fun j hj => ?_⟩, ⟨i + 1, k1, t, by omega, ?_⟩⟩
      · obtain ⟨x, hx, hc⟩ := H1.out.2 j hj
        exact ⟨x, hx, (World.cell?_of_block (a := ⟨gc, oc + j, none⟩) (Below.heap_setCell _ _ _ _ (by show gc ≠ g; have := H.out.base; omega))).trans hc⟩
      · rw [E2.out]; simp
    refine ⟨y, hyb, by rw [HY.out]; rfl, HF.kept rfl (fun _ _ => rfl), ?_⟩
    exact (G1.out.trans (grown_drewN _ _ _)).trans (grown_set _ g 1 _)
  · have hd : decide ((i : Int) < (n : Int)) = false := decide_eq_false (by omega)
    have hdN : decide (i < n) = false := decide_eq_false hin
    go_quiet (fail)
    go_wp2_with fail
    go_ret
    refine ⟨x0, hx, rfl, ⟨H.out.base, ⟨H1.out.1, H1.out.2⟩, ⟨i, k1, t, hi, HB1.out⟩⟩, ?_⟩
    exact (G1.out.trans (grown_drewN _ _ _)).trans (grown_drewN _ _ _)

theorem DrawPost.pre {B n : Nat} {p : Option Addr} {cap gc oc : Nat} {w w1 : World} {g m : Nat} {e : Ending} {w' : World} (hg : w.grownBy w1 (some g)) (h : DrawPost B n p cap gc oc w1 g m e w') : DrawPost B n p cap gc oc w g m e w' := by
  obtain ⟨x, h1, h2, h3, h4⟩ := h
  exact ⟨x, h1, h2, h3, hg.trans h4⟩

set_option maxRecDepth 100000 in
set_option maxHeartbeats 2000000 in
/-- A draw below m. -/
theorem below_any {B n : Nat} {p : Option Addr} {cap gc oc : Nat} {w : World} {g : Nat} (hn : n ≤ 1048576) (h : Cu B n p cap gc oc w g) (m : Nat) (hm0 : 0 < m) (hm : m ≤ 4294967296) :
    Calls Try.prog 55 #[.pointer (some ⟨g, 0, none⟩), .int .i64 (m : Int)] w (DrawPost B n p cap gc oc w g m) := by
  have H := Lib.hid h
  clear h
  by_cases h256 : m ≤ 256
  · have hm1 : (1 : Int) ≤ (m : Int) := by omega
    have hm2 : (m : Int) ≤ 256 := by omega
    go_enter Try.func55, Try.ntmps55
    go_wp2_with fail
    refine (byte_any hn H.out).mono ?_
    rintro e w1 ⟨x, hx, rfl, hc, hg⟩
    have HC := Lib.hid hc
    have HG := Lib.hid hg
    clear hc hg
    go_wp2_with fail
    go_ret
    refine ⟨x % m, Nat.mod_lt _ hm0, ?_, HC.out, HG.out⟩
    first | rfl | (congr 1)
  · have hm1 : (257 : Int) ≤ (m : Int) := by omega
    have hm2 : (m : Int) ≤ 4294967296 := by omega
    go_enter Try.func55, Try.ntmps55
    go_wp2_with fail
    refine (byte_any hn H.out).mono ?_
    rintro e w1 ⟨x1, hx1, rfl, hc1, hg1⟩
    have HC1 := Lib.hid hc1
    have HG1 := Lib.hid hg1
    clear hc1 hg1
    go_wp2_with fail
    refine (byte_any hn HC1.out).mono ?_
    rintro e w2 ⟨x2, hx2, rfl, hc2, hg2⟩
    have HC2 := Lib.hid hc2
    have HG2 := Lib.hid (HG1.out.trans hg2)
    clear hc2 hg2
    go_wp2_with fail
    refine (byte_any hn HC2.out).mono ?_
    rintro e w3 ⟨x3, hx3, rfl, hc3, hg3⟩
    have HC3 := Lib.hid hc3
    have HG3 := Lib.hid (HG2.out.trans hg3)
    clear hc3 hg3
    go_wp2_with fail
    refine (byte_any hn HC3.out).mono ?_
    rintro e w4 ⟨x4, hx4, rfl, hc4, hg4⟩
    have HC4 := Lib.hid hc4
    have HG4 := Lib.hid (HG3.out.trans hg4)
    clear hc4 hg4
    go_wp2_with fail
    go_ret
    refine ⟨(x1 * 16777216 + x2 * 65536 + x3 * 256 + x4) % m, Nat.mod_lt _ hm0, ?_, HC4.out, HG4.out⟩
    first | rfl | (congr 1)

set_option maxRecDepth 100000 in
/-- One of a list of numbers. -/
theorem pickInt_any {B n : Nat} {p : Option Addr} {cap gc oc : Nat} {w : World} {g : Nat} (hn : n ≤ 1048576) (h : Cu B n p cap gc oc w g) (l : List Int) (gl c : Nat) (hl0 : 0 < l.length) (hl : l.length ≤ 1000) (hgl : gl ≠ g) (hgs : gl < w.heap.size) (hcl : ∀ j (hj : j < l.length), w.cell? ⟨gl, j, none⟩ = some (.int .i64 l[j])) :
    Calls Try.prog 56 #[.pointer (some ⟨g, 0, none⟩), .slice (some ⟨gl, 0, none⟩) l.length c] w fun e w' => ∃ x ∈ l, e = .returned (.int .i64 x) ∧ Cu B n p cap gc oc w' g ∧ w.grownBy w' (some g) := by
  have H := Lib.hid h
  have HL := Lib.hid hcl
  clear h hcl
  obtain ⟨m, hm⟩ : ∃ m, m = l.length := ⟨_, rfl⟩
  rw [← hm] at hl0 hl ⊢
  have HM := Lib.hid hm
  clear hm
  go_enter Try.func56, Try.ntmps56
  go_wp2_with fail
  refine (below_any hn H.out m hl0 (by omega)).mono ?_
  rintro e w1 ⟨x, hx, rfl, hc, hg⟩
  have hxl : x < l.length := by rw [← HM.out]; exact hx
  have hcx : w1.cell? ⟨gl, x, none⟩ = some (.int .i64 l[x]) := (World.cell?_of_block (a := ⟨gl, x, none⟩) (hg.block gl hgs (by intro e; injection e with e; exact hgl e))).trans (HL.out x hxl)
  obtain ⟨v, hv⟩ : ∃ v, v = l[x] := ⟨_, rfl⟩
  rw [← hv] at hcx
  have HV := Lib.hid hv
  have HC := Lib.hid hc
  have HG := Lib.hid hg
  clear hc hg hv
  have hx0 : (0 : Int) ≤ (x : Int) := by omega
  have hxm : (x : Int) < (m : Int) := by omega
  go_wp2_with fail
  go_ret
  exact ⟨v, by rw [HV.out]; exact List.getElem_mem _, rfl, HC.out, HG.out⟩

end Go.Proofs.Ytnkhjlpeeljelab
