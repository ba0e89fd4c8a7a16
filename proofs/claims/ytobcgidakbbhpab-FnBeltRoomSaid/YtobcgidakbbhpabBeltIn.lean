/- Belts as values: what the calls over them return. -/
import Derived.Test.YtobcgidakbbhpabEntersPlain
import Derived.Test.YtobcgidakbbhpabEnterS
import Derived.Test.YtobcgidakbbhpabLeaveU
import Derived.Test.YtobcgidakbbhpabBacklog
import Derived.Test.YtobcgidakbbhpabCoverI
import Derived.Test.YtobcgidakbbhpabSameBelt
namespace Go.Proofs.Ytobcgidakbbhpab
open Go.RowKit
set_option linter.unusedVariables false

/-- The slice of n items z lies in memory. -/
def BeltIn (W : World) (p : Option Addr) (n c : Nat) (z : Nat → Int) : Prop := n ≤ c ∧ ∃ g o, FlatAt W 0 W.heap.size p g o (n * 3) (fun j => .int .i64 (z j))
theorem BeltIn.later {W W' : World} {p : Option Addr} {n c : Nat} {z : Nat → Int} (h : BeltIn W p n c z) (hb : Below W.heap.size W W') : BeltIn W' p n c z := by
  obtain ⟨h1, g, o, h2⟩ := h
  exact ⟨h1, g, o, (h2.below hb (Nat.le_refl _)).wide (Nat.le_refl _) hb.size⟩
theorem BeltIn.of_new {W : World} {B : Nat} {p : Option Addr} {n c : Nat} {z : Nat → Int} (hc : n ≤ c) (h : RowNew W B p (n * 3) z) : BeltIn W p n c z := by
  obtain ⟨g, o, h1, -⟩ := h
  exact ⟨hc, g, o, h1.wide (Nat.zero_le _) (Nat.le_refl _)⟩
section
variable {W : World} {p : Option Addr} {n c : Nat} {z : Nat → Int} (L G : Int) (H : Bool) (hn : n ≤ 1048576) (h : BeltIn W p n c z)
include h hn
theorem iEnter_b (x y : Int) : Calls Try.prog 36 #[.agg #[.int .i64 L, .int .i64 G, .bool H, .slice p n c], .int .i64 x, .int .i64 y] W fun e w' => ∃ p' c', e = .returned (.tuple #[.agg #[.int .i64 L, .int .i64 G, .bool H, .slice p' (enN L G n z x y) c'], .bool (enB L G n z x y)]) ∧ BeltIn w' p' (enN L G n z x y) c' (enZ L G n z x y) ∧ Below W.heap.size W w' := by
  obtain ⟨hc, g, o, hf⟩ := h
  refine (iEnter_any n hn z p c g o L G H x y W hf hc).mono ?_
  rintro e w' ⟨p', c', he, h1, h2, hb⟩
  exact ⟨p', c', he, .of_new h1 h2, hb⟩
theorem sEnter_b (x y : Int) : Calls Try.prog 38 #[.agg #[.int .i64 L, .int .i64 G, .bool H, .slice p n c], .int .i64 x, .int .i64 y] W fun e w' => ∃ p' c', e = .returned (.tuple #[.agg #[.int .i64 L, .int .i64 G, .bool H, .slice p' (enN L G n z x y) c'], .bool (enB L G n z x y)]) ∧ BeltIn w' p' (enN L G n z x y) c' (enZ L G n z x y) ∧ Below W.heap.size W w' := by
  obtain ⟨hc, g, o, hf⟩ := h
  refine (sEnter_any n hn z p c g o L G H x y W hf).mono ?_
  rintro e w' ⟨p', c', he, h1, h2, hb⟩
  exact ⟨p', c', he, .of_new h1 h2, hb⟩
theorem iLeave_b : Calls Try.prog 39 #[.agg #[.int .i64 L, .int .i64 G, .bool H, .slice p n c]] W fun e w' => ∃ p' c', e = .returned (.tuple #[.agg #[.int .i64 L, .int .i64 G, .bool H, .slice p' (lvN L G H n z) c'], .int .i64 (lvB L G H n z), .bool (lvOk L G H n z)]) ∧ BeltIn w' p' (lvN L G H n z) c' (lvZ L G H n z) ∧ Below W.heap.size W w' := by
  obtain ⟨hc, g, o, hf⟩ := h
  refine (iLeave_any n hn z p c g o L G H W hf hc).mono ?_
  rintro e w' ⟨p', c', he, h1, h2, hb⟩
  exact ⟨p', c', he, .of_new h1 h2, hb⟩
theorem sLeave_b : Calls Try.prog 40 #[.agg #[.int .i64 L, .int .i64 G, .bool H, .slice p n c]] W fun e w' => ∃ p' c', e = .returned (.tuple #[.agg #[.int .i64 L, .int .i64 G, .bool H, .slice p' (lvN L G H n z) c'], .int .i64 (lvB L G H n z), .bool (lvOk L G H n z)]) ∧ BeltIn w' p' (lvN L G H n z) c' (lvZ L G H n z) ∧ Below W.heap.size W w' := by
  obtain ⟨hc, g, o, hf⟩ := h
  refine (sLeave_any n hn z p c g o L G H W hf).mono ?_
  rintro e w' ⟨p', c', he, h1, h2, hb⟩
  exact ⟨p', c', he, .of_new h1 h2, hb⟩
theorem iBacklog_b : Calls Try.prog 41 #[.agg #[.int .i64 L, .int .i64 G, .bool H, .slice p n c]] W fun e w' => e = .returned (.int .i64 (blB L G n z)) ∧ Below W.heap.size W w' := by
  obtain ⟨hc, g, o, hf⟩ := h
  exact iBacklog_any n hn z p c g o L G H W hf hc
theorem sBacklog_b : Calls Try.prog 42 #[.agg #[.int .i64 L, .int .i64 G, .bool H, .slice p n c]] W fun e w' => e = .returned (.int .i64 (blB L G n z)) ∧ Below W.heap.size W w' := by
  obtain ⟨hc, g, o, hf⟩ := h
  exact sBacklog_any n (by unfold maxLen; omega) z p c g o L G H W hf
theorem iFree_b : Calls Try.prog 43 #[.agg #[.int .i64 L, .int .i64 G, .bool H, .slice p n c]] W fun e w' => e = .returned (.int .i64 (frB L G n z)) ∧ Below W.heap.size W w' := by
  obtain ⟨hc, g, o, hf⟩ := h
  exact iFree_any n (by unfold maxLen; omega) z p c g o L G H W hf hc
theorem sFree_b : Calls Try.prog 44 #[.agg #[.int .i64 L, .int .i64 G, .bool H, .slice p n c]] W fun e w' => e = .returned (.int .i64 (frB L G n z)) ∧ Below W.heap.size W w' := by
  obtain ⟨hc, g, o, hf⟩ := h
  exact sFree_any n (by unfold maxLen; omega) z p c g o L G H W hf
theorem iCover_b (s : Int) (ws : (Lit.int .i64 s).wf = true) : Calls Try.prog 45 #[.agg #[.int .i64 L, .int .i64 G, .bool H, .slice p n c], .int .i64 s] W fun e w' => e = .returned (.int .i64 (cvB L G n z s)) ∧ Below W.heap.size W w' := by
  obtain ⟨hc, g, o, hf⟩ := h
  exact iCover_any n (by unfold maxLen; omega) z p c g o L G H s ws W hf hc
theorem iBeltOk_b : Calls Try.prog 28 #[.agg #[.int .i64 L, .int .i64 G, .bool H, .slice p n c]] W fun e w' => e = .returned (.bool (okB L G n z)) ∧ Below W.heap.size W w' := by
  obtain ⟨hc, g, o, hf⟩ := h
  exact iBeltOk_any n (by unfold maxLen; omega) z p c g o L G H W hf hc
theorem sameBelt_b {p2 : Option Addr} {c2 : Nat} (h2 : BeltIn W p2 n c2 z) : Calls Try.prog 26 #[.agg #[.int .i64 L, .int .i64 G, .bool H, .slice p n c], .agg #[.int .i64 L, .int .i64 G, .bool H, .slice p2 n c2]] W fun e w' => e = .returned (.bool true) ∧ Below W.heap.size W w' := by
  obtain ⟨hc, g, o, hf⟩ := h
  obtain ⟨hc2, g2, o2, hf2⟩ := h2
  exact sameBelt_any n hn z p p2 c c2 g o g2 o2 L G H W hf hf2
end

end Go.Proofs.Ytobcgidakbbhpab
