/- For every code FnBeltRoom returns true, and the code reads as before. No condition. -/
import Derived.Test.YtobcgidakbbhpabRows
import Derived.Test.YtobcgidakbbhpabDrawRoom
import Derived.Test.YtobcgidakbbhpabBeltIn
import Derived.Test.YtobcgidakbbhpabRoomV
import Derived.Test.YtobcgidakbbhpabMoveI
import Derived.Test.YtobcgidakbbhpabBig
import Derived.Test.YtobcgidakbbhpabLater
import Derived.Deep.RegionHeld3
import Derived.Deep.CutBlock
import Derived.Deep.DeepCutAuto
import Derived.Deep.CutRange
import Derived.OpenShut
import Derived.ChangeOld
import Derived.Lib.SmallJoins
namespace Go.Proofs.Ytobcgidakbbhpab.fnBeltRoom
open Go.ChangeShapes Go.WideShapes Go.ChangeAt Go.RowKit
set_option linter.unusedVariables false

theorem bx_later {w w' : World} {k : Nat} {o : Obj} (h : w.heap[k]? = some o) (hb : Below w.heap.size w w') : w'.heap[k]? = some o := (hb.block k (Array.getElem?_eq_some_iff.1 h).1).trans h
theorem enY_nw (n : Nat) (z : Nat → Int) (bag s : Int) : enY n z bag s = nwY n z bag s := rfl
/-- The slice of n items z lies in memory, not in block X. -/
def BeltOff (W : World) (X : Nat) (p : Option Addr) (n c : Nat) (z : Nat → Int) : Prop := n ≤ c ∧ ∃ g o, (0 < n → g ≠ X) ∧ FlatAt W 0 W.heap.size p g o (n * 3) (fun j => .int .i64 (z j))
theorem BeltOff.later {W W' : World} {X : Nat} {p : Option Addr} {n c : Nat} {z : Nat → Int} (h : BeltOff W X p n c z) (hb : Below W.heap.size W W') : BeltOff W' X p n c z := by
  obtain ⟨h1, g, o, hx, h2⟩ := h
  exact ⟨h1, g, o, hx, (h2.below hb (Nat.le_refl _)).wide (Nat.le_refl _) hb.size⟩
theorem BeltOff.set {W : World} {X : Nat} {p : Option Addr} {n c : Nat} {z : Nat → Int} (h : BeltOff W X p n c z) (i : Nat) (v : Value) : BeltOff (W.setCell ⟨X, i, none⟩ v) X p n c z := by
  obtain ⟨h1, g, o, hx, h2⟩ := h
  exact ⟨h1, g, o, hx, (h2.other v (fun hm => fun e => hx (by omega) e.symm)).wide (Nat.le_refl _) (by simp [World.setCell])⟩
theorem BeltOff.of_new {W : World} {B X : Nat} {p : Option Addr} {n c : Nat} {z : Nat → Int} (hX : X < B) (hc : n ≤ c) (h : RowNew W B p (n * 3) z) : BeltOff W X p n c z := by
  obtain ⟨g, o, h1, -⟩ := h
  exact ⟨hc, g, o, fun hn e => by have := (h1.1 (by omega)).2.1; omega, h1.wide (Nat.zero_le _) (Nat.le_refl _)⟩
theorem iMove_o {W : World} {X : Nat} {p : Option Addr} {n c : Nat} {z : Nat → Int} (L G : Int) (H : Bool) (hn : n ≤ 1048576) (hX : X < W.heap.size) (h : BeltOff W X p n c z) (hok : OkP L G n z) : Calls Try.prog 35 #[.agg #[.int .i64 L, .int .i64 G, .bool H, .slice p n c], .int .i64 400] W fun e w' => ∃ p' c', e = .returned (.agg #[.int .i64 L, .int .i64 G, .bool H, .slice p' n c']) ∧ BeltOff w' X p' n c' (mvZ L G 400 z) ∧ Below W.heap.size W w' := by
  obtain ⟨hc, g, o, -, hf⟩ := h
  have h9 := iMove_any n hn z p c g o L G H 400 W hf hc
  rw [mvR_400 hok] at h9
  refine h9.mono ?_
  rintro e w' ⟨p', c', he, h1, h2, hb⟩
  exact ⟨p', c', he, .of_new hX h1 h2, hb⟩
theorem iEnter_o {W : World} {X : Nat} {p : Option Addr} {n c : Nat} {z : Nat → Int} (L G : Int) (H : Bool) (hn : n ≤ 1048576) (hX : X < W.heap.size) (h : BeltOff W X p n c z) (x y : Int) : Calls Try.prog 36 #[.agg #[.int .i64 L, .int .i64 G, .bool H, .slice p n c], .int .i64 x, .int .i64 y] W fun e w' => ∃ p' c', e = .returned (.tuple #[.agg #[.int .i64 L, .int .i64 G, .bool H, .slice p' (enN L G n z x y) c'], .bool (enB L G n z x y)]) ∧ enN L G n z x y ≤ c' ∧ RowNew w' W.heap.size p' (enN L G n z x y * 3) (enZ L G n z x y) ∧ Below W.heap.size W w' := by
  obtain ⟨hc, g, o, -, hf⟩ := h
  exact iEnter_any n hn z p c g o L G H x y W hf hc

set_option maxRecDepth 100000 in
set_option maxHeartbeats 8000000 in
theorem walk (p : Option Addr) (n cap gc oc : Nat) (w : World) (hn : n ≤ maxLen) (hC : Code w.heap.size n w p gc oc) :
    Calls Try.prog 6 #[.slice p n cap] w fun e w' => e = .returned (.bool true) ∧ Below w.heap.size w w' := by
  have hbg := Lib.hid (big_any p n cap hn w)
  by_cases hbig : 1048576 < n
  · have hd : decide (1048576 < n) = true := decide_eq_true hbig
    simp only [hd] at hbg
    clear hC hbig hd hn
    go_enter Try.func6, Try.ntmps6
    go_wp2_with (go_at_call 33; refine hbg.out.mono ?_; rintro e w' ⟨rfl, rfl⟩)
    go_ret
    exact ⟨rfl, Below.refl _ _⟩
  have hd : decide (1048576 < n) = false := decide_eq_false hbig
  simp only [hd] at hbg
  have hn' : n ≤ 1048576 := by omega
  have HC := Lib.hid hC
  clear hC hbig hd hn
  go_enter Try.func6, Try.ntmps6
  go_wp2_with (go_at_call 33; refine hbg.out.mono ?_; rintro e w' ⟨rfl, rfl⟩)
  refine (DrawRoom_any hn' (Below.refl _ _) HC.out).mono ?_
  rintro e w1 ⟨L, G, H, q, po, co, z, m, v, y, rfl, hq, hz9, hRb, hm, hRy, hb1⟩
  have B1 := Lib.hid hb1
  have Rb1 := Lib.hid hRb
  have Ry1 := Lib.hid hRy
  have HZ := Lib.hid hz9
  clear hRb hRy hb1 hbg HC hz9
  go_upto_region 4 with fail
  obtain ⟨w2, hw2⟩ : ∃ xx, xx = w1.alloc (.cells #[.int .i64 L, .int .i64 G, .bool H, .slice po q co] 28) := ⟨_, rfl⟩
  have hb : Below w1.heap.size w1 w2 := by rw [hw2]; exact (Below.refl _ _).alloc (Nat.le_refl _) _
  have X2 : Hid (w2.heap[w1.heap.size]? = some (.cells #[.int .i64 L, .int .i64 G, .bool H, .slice po q co] 28 (0, 0))) := by rw [hw2]; exact heap_new _ _ _ rfl
  rw [← hw2]
  clear hw2
  have B2 := Lib.hid (B1.out.trans (hb.mono B1.out.size))
  have Rb2 := Lib.hid (Rb1.out.later hb)
  have Ry2 := Lib.hid (Ry1.out.later hb)
  clear hb B1 Rb1 Ry1
  obtain ⟨K, hK⟩ : ∃ K, K = rmB L G q z m y := ⟨_, rfl⟩
  have hc1 := Lib.hid (fun W (hW : Below w2.heap.size w2 W) => by
    have := iRoom_v q (by omega) z po co L G H m (by omega) y v W (Rb2.out.later hW) (Ry2.out.later hW)
    rwa [← hK] at this)
  have hc2 := Lib.hid (fun W (hW : Below w2.heap.size w2 W) => by
    have := sRoom_v q (by omega) z po co L G H m (by omega) y v W (Rb2.out.later hW) (Ry2.out.later hW)
    rwa [← hK] at this)
  have HK := Lib.hid hK
  clear hK
  obtain ⟨pv, cv, gv, ov, rfl, -, -⟩ := Ry2.out
  have hkk : (K != K) = false := by simp
  by_cases hok : OkP L G q z ∧ szP m y
  rotate_left
  · obtain rfl : K = -1 := by rw [HK.out]; exact rmB_no hok
    obtain ⟨x0, x1, x2, x3, -, -, -, -⟩ := cells4 X2.out
    go_wp2_with (first
      | (go_at_call 31; refine (hc1.out _ (Below.refl _ _)).mono ?_; rintro e w3 ⟨rfl, hb3⟩; have X3 := Lib.hid (bx_later X2.out hb3); clear x0 x1 x2 x3; obtain ⟨x0, x1, x2, x3, -, -, -, -⟩ := cells4 X3.out)
      | (go_at_call 29; refine (hc2.out _ hb3).mono ?_; rintro e w4 ⟨rfl, hb4⟩; have X4 := Lib.hid (bx_later X3.out hb4); clear x0 x1 x2 x3))
    have hb24 := hb3.trans (hb4.mono hb3.size)
    have B4 := Lib.hid (B2.out.trans (hb24.mono B2.out.size))
    have Rb4 := Lib.hid (Rb2.out.later hb24)
    have Ry4 := Lib.hid (Ry2.out.later hb24)
    clear hb3 hb4 hb24 hc1 hc2 B2 Rb2 Ry2 X2 X3
    go_ret
    exact ⟨rfl, B4.out⟩
  obtain ⟨hokq, hsz⟩ := hok
  obtain ⟨r, hr, hroom⟩ : ∃ r : Nat, K = (r : Int) ∧ IsRoom G (tg L G z q) q m y r := ⟨_, (by rw [HK.out]; exact rmB_at hokq hsz (rmR_is _ _ _ _ _)), rmR_is _ _ _ _ _⟩
  subst hr
  have hr0 : decide ((r : Int) < 0) = false := decide_eq_false (by omega)
  obtain ⟨x0, x1, x2, x3, -, -, -, -⟩ := cells4 X2.out
  go_wp2_with (first
    | (go_at_call 31; refine (hc1.out _ (Below.refl _ _)).mono ?_; rintro e w3 ⟨rfl, hb3⟩; have X3 := Lib.hid (bx_later X2.out hb3); clear x0 x1 x2 x3; obtain ⟨x0, x1, x2, x3, -, -, -, -⟩ := cells4 X3.out)
    | (go_at_call 29; refine (hc2.out _ hb3).mono ?_; rintro e w4 ⟨rfl, hb4⟩; have X4 := Lib.hid (bx_later X3.out hb4); clear x0 x1 x2 x3; obtain ⟨x0, x1, x2, x3, -, -, -, -⟩ := cells4 X4.out))
  have hb24 := hb3.trans (hb4.mono hb3.size)
  have B4 := Lib.hid (B2.out.trans (hb24.mono B2.out.size))
  have Rb4 := Lib.hid (Rb2.out.later hb24)
  have Ry4 := Lib.hid (Ry2.out.later hb24)
  clear hb3 hb4 hb24 hc1 hc2 B2 Rb2 Ry2 X2 X3
  have hrm : r ≤ m := hroom.1
  have HROOM := Lib.hid hroom
  have HSZ := Lib.hid hsz
  have HOKQ := Lib.hid hokq
  obtain ⟨f0, hf0⟩ : ∃ f0, f0 = tg L G z q := ⟨_, rfl⟩
  rw [← hf0] at HROOM
  have HF0 := Lib.hid hf0
  clear hroom hokq hsz hf0 HK
  obtain ⟨w5, hw5⟩ : ∃ xx, xx = w4.alloc (.cells #[.int .i64 L, .int .i64 G, .bool H, .slice po q co] 28) := ⟨_, rfl⟩
  have hb : Below w4.heap.size w4 w5 := by rw [hw5]; exact (Below.refl _ _).alloc (Nat.le_refl _) _
  have X5 : Hid (w5.heap[w4.heap.size]? = some (.cells #[.int .i64 L, .int .i64 G, .bool H, .slice po q co] 28 (0, 0))) := by rw [hw5]; exact heap_new _ _ _ rfl
  rw [← hw5]
  have hs5 : w4.heap.size < w5.heap.size := by rw [hw5]; simp
  clear hw5
  have B5 := Lib.hid (B4.out.trans (hb.mono B4.out.size))
  have Rb5 := Lib.hid (Rb4.out.later hb)
  have Ry5 := Lib.hid (Ry4.out.later hb)
  have hw4s : w.heap.size ≤ w4.heap.size := B4.out.size
  have HB45 := Lib.hid hb
  clear hb X4
  have hBI : BeltOff w5 w4.heap.size po q co z := by
    obtain ⟨p9, c9, g9, o9, e, h1, h2⟩ := Rb4.out
    injection e with e1 _ e3
    subst e1; subst e3
    exact ⟨h1, g9, o9, fun h0 e => by have := (h2.1 (by omega)).2.2; omega, (h2.below HB45.out (Nat.le_refl _)).wide (Nat.zero_le _) HB45.out.size⟩
  have HBI := Lib.hid hBI
  clear hBI Rb5 Rb4
  clear x0 x1 x2 x3
  go_loopw [7] (fun iv wr => ∃ (i : Nat) (zi : Nat → Int) (pi : Option Addr) (ci : Nat), i ≤ r ∧ iv = .int .i64 (i : Int) ∧ Hid (OkP L G (q + i) zi) ∧ Hid (tg L G zi (q + i) = fre G f0 y i) ∧ Hid (∀ j, j < q + i → zi (j * 3) ≤ 4999 + (i : Int)) ∧ Hid (wr.heap[w4.heap.size]? = some (.cells #[.int .i64 L, .int .i64 G, .bool H, .slice pi (q + i) ci] 28 (0, 0))) ∧ Hid (BeltOff wr w4.heap.size pi (q + i) ci zi) ∧ Hid (Below w4.heap.size w4 wr)) (fun iv _ => m - (intOf iv).toNat)
  case atStart => exact ⟨0, z, po, co, by omega, rfl, HOKQ.out, HF0.out.symm, fun j hj => by have := HZ.out j hj; omega, X5.out, HBI.out, HB45.out⟩
  case round =>
    obtain ⟨i, zi, pi, ci, hi, rfl, HO, HT, HG, HX, HI, HB⟩ := hrel
    have BW := Lib.hid (B4.out.trans (HB.out.mono hw4s))
    by_cases him : i < m
    · obtain ⟨N, hN⟩ : ∃ N, N = q + i := ⟨_, rfl⟩
      rw [← hN] at HO HT HG HX HI
      have hcb : q + (i + 1) = N + 1 := by omega
      have HN := Lib.hid hN
      have HCB := Lib.hid hcb
      have hN40 : N ≤ 40 := HO.out.2.2.1
      clear hN hcb
      have hi0 : (0 : Int) ≤ (i : Int) := by omega
      have hil : (i : Int) < (m : Int) := by omega
      have hwi : IntKind.i64.wrap ((i : Int) + 1) = (i : Int) + 1 := IntWalk.i64_in _ (by omega)
      have hw5000 : IntKind.i64.wrap (5000 + (i : Int)) = 5000 + (i : Int) := IntWalk.i64_in _ (by omega)
      have HX4l : w4.heap.size < wr.heap.size := (Array.getElem?_eq_some_iff.1 HX.out).1
      have hmv := Lib.hid (iMove_o L G H (by omega) HX4l HI.out HO.out)
      have HC := Lib.hid (Clo.of_ok HO.out)
      have hRY := Ry4.out.later HB.out
      obtain ⟨x0, x1, x2, x3, -, -, -, -⟩ := cells4 HX.out
      go_wp2_with (go_at_call 35; refine hmv.out.mono ?_; rintro e w6 ⟨p6, c6, rfl, hI6, hb6⟩; have HX6 := Lib.hid (bx_later HX.out hb6); have HI6 := Lib.hid hI6; have HB6 := Lib.hid (HB.out.trans (hb6.mono HB.out.size)); have HR6 := Lib.hid (hRY.later hb6); clear hI6 hb6 x0 x1 x2 x3; obtain ⟨x0, x1, x2, x3, x4, x5, x6, x7⟩ := cells4 HX6.out)
      clear hmv hRY
      obtain ⟨wq, hwq⟩ : ∃ xx, xx = ((((w6.setCell ⟨w4.heap.size, 0, none⟩ (.int .i64 L)).setCell ⟨w4.heap.size, 1, none⟩ (.int .i64 G)).setCell ⟨w4.heap.size, 2, none⟩ (.bool H)).setCell ⟨w4.heap.size, 3, none⟩ (.slice p6 N c6)) := ⟨_, rfl⟩
      have hxq : wq.heap[w4.heap.size]? = some (.cells #[.int .i64 L, .int .i64 G, .bool H, .slice p6 N c6] 28 (0, 0)) := by rw [hwq]; exact blk_set (blk_set (blk_set (blk_set HX6.out _) _) _) _
      have hiq : BeltOff wq w4.heap.size p6 N c6 (mvZ L G 400 zi) := by rw [hwq]; exact (((HI6.out.set _ _).set _ _).set _ _).set _ _
      have hbq : Below w4.heap.size w4 wq := by rw [hwq]; exact (((HB6.out.setCell (Nat.le_refl _) _).setCell (Nat.le_refl _) _).setCell (Nat.le_refl _) _).setCell (Nat.le_refl _) _
      have hlq : w4.heap.size < wq.heap.size := (Array.getElem?_eq_some_iff.1 hxq).1
      have XQ := Lib.hid hxq
      have IQ := Lib.hid hiq
      have BQ := Lib.hid hbq
      have HWQ := Lib.hid hwq
      clear hwq hxq hiq hbq x0 x1 x2 x3 x4 x5 x6 x7 HX6 HI6 HB6 HR6 HX HI HB BW
      go_upto_region 14 with fail
      rw [← HWQ.out]
      have hRY := Ry4.out.later BQ.out
      obtain ⟨p9, c9, g9, o9, e9, -, hfy⟩ := hRY
      injection e9 with e91 _ e93
      subst e91; subst e93
      obtain ⟨rfl, -, hg9⟩ := hfy.1 (by omega)
      have b0 := hfy.int i him
      obtain ⟨sz, hsz⟩ : ∃ s, s = y i := ⟨_, rfl⟩
      rw [← hsz] at b0
      have hen : enB L G N (mvZ L G 400 zi) (5000 + (i : Int)) sz = true ↔ i < r := by
        have hcl := HC.out
        have hfr : frB L G N (mvZ L G 400 zi) = max 0 (fre G f0 y i) := by unfold frB; rw [if_pos (okB_yes hcl.1), hcl.lim, HT.out]
        have hszi := HSZ.out i him
        rw [← hsz] at hszi
        have hiff : enOk L G N (mvZ L G 400 zi) (5000 + (i : Int)) sz ↔ (q + i < 40 ∧ y i ≤ fre G f0 y i) := by
          unfold enOk
          rw [hfr, HN.out, ← hsz]
          constructor
          · rintro ⟨-, -, -, -, h4, h5⟩; exact ⟨h4, by omega⟩
          · rintro ⟨h4, h5⟩
            refine ⟨by rw [← HN.out]; exact okB_yes hcl.1, by omega, ?_, inB_iff.2 hszi, h4, by omega⟩
            rintro ⟨j, hj, e⟩
            rw [mvZ_bag] at e
            have := HG.out j (by rw [HN.out]; exact hj)
            omega
        constructor
        · intro h
          have h2 : enOk L G N (mvZ L G 400 zi) (5000 + (i : Int)) sz := by simpa [enB] using h
          rcases Nat.lt_or_ge i r with h3 | h3
          · exact h3
          · obtain rfl : i = r := by omega
            exact absurd (hiff.1 h2) (HROOM.out.2.2 him)
        · intro h
          exact (en_yes (hiff.2 (HROOM.out.2.1 i h))).1
      have hec := Lib.hid (fun (K : World) (hK : Below wq.heap.size wq K) => iEnter_o L G H (by omega) (Nat.lt_of_lt_of_le hlq hK.size) (IQ.out.later hK) (5000 + (i : Int)) sz)
      obtain ⟨N2, hN2⟩ : ∃ N2, N2 = enN L G N (mvZ L G 400 zi) (5000 + (i : Int)) sz := ⟨_, rfl⟩
      obtain ⟨Z2, hZ2⟩ : ∃ Z2, Z2 = enZ L G N (mvZ L G 400 zi) (5000 + (i : Int)) sz := ⟨_, rfl⟩
      obtain ⟨eb, heb⟩ : ∃ eb, eb = enB L G N (mvZ L G 400 zi) (5000 + (i : Int)) sz := ⟨_, rfl⟩
      rw [← hN2, ← hZ2, ← heb] at hec
      rw [← heb] at hen
      have HY2 := Lib.hid (fun (h : eb = true) => (by
        have h2 : enOk L G N (mvZ L G 400 zi) (5000 + (i : Int)) sz := by rw [heb] at h; simpa [enB] using h
        obtain ⟨-, e1, e2⟩ := en_yes h2
        exact ⟨hN2.trans e1, hZ2.trans e2⟩ : N2 = N + 1 ∧ Z2 = enY N (mvZ L G 400 zi) (5000 + (i : Int)) sz))
      have HEN := Lib.hid hen
      have HSK := Lib.hid hsz
      have hxk := Lib.hid (fun (K : World) (hK : Below wq.heap.size wq K) => cells4 ((hK.block _ hlq).trans XQ.out))
      clear hN2 hZ2 heb hen hsz hfy
      have D0 : Below wq.heap.size wq wq := Below.refl _ _
      obtain ⟨x0, x1, x2, x3, x4, x5, x6, x7⟩ := hxk.out _ D0
      have hgq2 : wq.heap.size ≠ g9 := by omega
      go_cut [8, 9] from 36 to 46 (fun pv ev wx => ∃ (X8 : Nat) (p2 : Option Addr) (c2 : Nat), .pointer (some ⟨X8, 0, none⟩) = pv ∧ .bool eb = ev ∧ wx.heap[X8]? = some (.cells #[.int .i64 L, .int .i64 G, .bool H, .slice p2 N2 c2] 28 (0, 0)) ∧ BeltOff wx w4.heap.size p2 N2 c2 Z2 ∧ Below wq.heap.size wq wx)
      case first =>
        have hSk := Lib.hid (fun (K : World) (hK : Below wq.heap.size wq K) => (by
          obtain ⟨u0, u1, u2, u3, -, -, -, -⟩ := hxk.out K hK
          exact ⟨u0, u1, u2, u3, (hK.cell (p := ⟨g9, o9 + i, none⟩) hg9).trans b0⟩ : K.cell? ⟨w4.heap.size, 0, none⟩ = some (.int .i64 L) ∧ K.cell? ⟨w4.heap.size, 1, none⟩ = some (.int .i64 G) ∧ K.cell? ⟨w4.heap.size, 2, none⟩ = some (.bool H) ∧ K.cell? ⟨w4.heap.size, 3, none⟩ = some (.slice p6 N c6) ∧ K.cell? ⟨g9, o9 + i, none⟩ = some (.int .i64 sz)))
        have hkeep0 := hSk.out _ D0
        go_region_held3 (fun K => K.cell? ⟨w4.heap.size, 0, none⟩ = some (.int .i64 L) ∧ K.cell? ⟨w4.heap.size, 1, none⟩ = some (.int .i64 G) ∧ K.cell? ⟨w4.heap.size, 2, none⟩ = some (.bool H) ∧ K.cell? ⟨w4.heap.size, 3, none⟩ = some (.slice p6 N c6) ∧ K.cell? ⟨g9, o9 + i, none⟩ = some (.int .i64 sz))
          (first | exact hkeep0 | exact hkeep1 | (exact hSk.out _ (by repeat (first | exact D1 | exact D0 | refine Below.setCell ?_ (by first | omega | (simp; done) | (simp; omega)) _ | refine Below.alloc ?_ (by first | omega | (simp; done) | (simp; omega)) _ | refine Below.drew ?_))) | go_keep)
          (first | (go_at_call 36; refine (hec.out _ (by repeat (first | assumption | exact Below.refl _ _ | refine Below.alloc ?_ (by simp <;> omega) _ | refine Below.drew ?_))).mono ?_; rintro e k1 ⟨p2, c2, rfl, hcc2, hRn, hbk⟩; have D1 : Below wq.heap.size wq k1 := below_via hbk (by repeat (first | assumption | exact Below.refl _ _ | refine Below.alloc ?_ (by simp <;> omega) _ | refine Below.drew ?_)) (by simp); have hs1 := D1.size; have hkeep1 := hSk.out _ D1; obtain ⟨n0, n1, n2, n3, n4, n5, n6, n7⟩ := cells4 (heap_new k1 (.cells #[.int .i64 0, .int .i64 0, .bool false, .slice none 0 0] 28) k1.heap.size rfl); (first | (have hz9 := (hbk.block wq.heap.size (by simp)).trans (heap_new wq.drew (.cells #[.int .i64 0, .int .i64 0, .bool false, .slice none 0 0] 28) wq.heap.size rfl); obtain ⟨q0, q1, q2, q3, q4, q5, q6, q7⟩ := cells4 hz9) | skip)))
        all_goals
          go_wp2_with fail
          go_meet
          refine ⟨_, p2, c2, rfl, rfl, ?_, ?_, ?_⟩
          · first
              | (with_reducible exact heap_new k1 _ _ rfl)
              | exact blk_set (blk_set (blk_set (blk_set hz9 _) _) _) _
          · first
              | (with_reducible exact BeltOff.of_new hlq hcc2 (hRn.below ((Below.refl _ _).alloc (Nat.le_refl _) _)))
              | (with_reducible refine BeltOff.of_new (B := (wq.drew.alloc (.cells #[.int .i64 0, .int .i64 0, .bool false, .slice none 0 0] 28)).heap.size) ?_ hcc2 ((((hRn.far _ ?_).far _ ?_).far _ ?_).far _ ?_)) <;> simp <;> omega
          · first
              | (with_reducible exact D1.alloc hs1 _)
              | (with_reducible exact (((D1.setCell (Nat.le_refl _) _).setCell (Nat.le_refl _) _).setCell (Nat.le_refl _) _).setCell (Nat.le_refl _) _)
      case rest =>
        obtain ⟨X8, p2, c2, rfl, rfl, k1, k2, k3⟩ := hcut
        have BC := Lib.hid (BQ.out.trans (k3.mono (by omega)))
        have XC := Lib.hid ((k3.block _ hlq).trans XQ.out)
        have K1 := Lib.hid k1
        have K2 := Lib.hid k2
        have hlc : w4.heap.size < wc.heap.size := by have := k3.size; omega
        clear hxk hec D0 x0 x1 x2 x3 x4 x5 x6 x7 b0 XQ IQ BQ HWQ k1 k2 k3
        cases eb with
        | false =>
          have hir : ¬ i < r := fun h => by have := HEN.out.2 h; cases this
          have hdr : decide ((i : Int) < (r : Int)) = false := decide_eq_false (by omega)
          have hdm : decide ((r : Int) ≤ (m : Int)) = true := decide_eq_true (by omega)
          go_wp2_with fail
          go_ret
          exact ⟨rfl, B4.out.trans (BC.out.mono hw4s)⟩
        | true =>
          have hir : i < r := HEN.out.1 rfl
          have hdr : decide ((i : Int) < (r : Int)) = true := decide_eq_true (by omega)
          obtain ⟨rfl, rfl⟩ := HY2.out rfl
          obtain ⟨y0, y1, y2, y3, -, -, -, -⟩ := cells4 K1.out
          obtain ⟨x0, x1, x2, x3, x4, x5, x6, x7⟩ := cells4 XC.out
          have hszi := HSZ.out i him
          have hr2 := HROOM.out.2.1 i hir
          rw [← HSK.out] at hszi hr2
          have hokn := nwY_ok (bag := 5000 + (i : Int)) HC.out.1 (by rw [HN.out]; exact hr2.1) (by omega) (fun j hj e => by
            rw [mvZ_bag] at e
            have := HG.out j hj
            omega) hszi (by rw [HC.out.lim, HT.out]; exact hr2.2)
          have HOKN := Lib.hid hokn
          clear hokn
          go_wp2_with fail
          go_roundw
          case rel =>
            refine ⟨i + 1, enY N (mvZ L G 400 zi) (5000 + (i : Int)) sz, p2, c2, by omega, by congr 1, ?_, ?_, ?_, ?_, ?_, ?_⟩
            · rw [HCB.out]; exact HOKN.out
            · rw [HCB.out]
              show tg L G (nwY N (mvZ L G 400 zi) (5000 + (i : Int)) sz) N - nwY N (mvZ L G 400 zi) (5000 + (i : Int)) sz (N * 3 + 2) - G = fre G f0 y i - y i - G
              have e1 : tg L G (nwY N (mvZ L G 400 zi) (5000 + (i : Int)) sz) N = tg L G zi N := tg_len N (fun j hj => by
                have : nwY N (mvZ L G 400 zi) (5000 + (i : Int)) sz (j * 3 + 2) = mvZ L G 400 zi (j * 3 + 2) := if_pos (by omega)
                rw [this, mvZ_len])
              have e2 : nwY N (mvZ L G 400 zi) (5000 + (i : Int)) sz (N * 3 + 2) = sz := by unfold nwY; rw [if_neg (by omega), if_neg (by omega)]
              rw [e1, e2, HT.out, HSK.out]
            · intro j hj
              rw [HCB.out] at hj
              by_cases ej : j = N
              · subst ej
                have : enY j (mvZ L G 400 zi) (5000 + (i : Int)) sz (j * 3) = 5000 + (i : Int) := by unfold enY; rw [if_neg (by omega), if_pos rfl]
                rw [this]; omega
              · have : enY N (mvZ L G 400 zi) (5000 + (i : Int)) sz (j * 3) = mvZ L G 400 zi (j * 3) := if_pos (by omega)
                rw [this, mvZ_bag]
                have := HG.out j (by omega)
                omega
            · rw [HCB.out]; exact blk_set (blk_set (blk_set (blk_set XC.out _) _) _) _
            · rw [HCB.out]; exact (((K2.out.set _ _).set _ _).set _ _).set _ _
            · exact (((BC.out.setCell (Nat.le_refl _) _).setCell (Nat.le_refl _) _).setCell (Nat.le_refl _) _).setCell (Nat.le_refl _) _
          case measure => simp only [intOf]; omega
    · obtain rfl : i = r := by omega
      have hdm : decide ((i : Int) ≤ (m : Int)) = true := decide_eq_true (by omega)
      go_wp2_with fail
      go_ret
      exact ⟨rfl, BW.out⟩

/-! The row's step. -/
theorem own : ownKnob Try.prog.godebug = none := by kernel_rfl
theorem laidOut : laidOutB Try.prog = true := by kernel_rfl
set_option maxRecDepth 100000 in
theorem lifted (os : Os) (started : os.Started) (H : Type) (enc : TypeId × Value → H) :
    ReturnsInHanded {} Try.checked os 6 .any (Rows.fnBeltRoomSpec.pre6 enc Try.prog Try.f6 Rows.fnBeltRoomRow.domain false) (Rows.fnBeltRoomSpec.post enc Try.prog Try.f6 false true false false) := by
  refine returnsInHanded_of_change (C := Try.checked) own started (by kernel_rfl) Try.func6
    (ChangeSpec.witness6 (enc := enc) (C := Try.checked) false ⟨#[], #[.slice none 0 0], []⟩ 8 (by kernel_rfl) (by kernel_rfl) (by kernel_rfl) (by kernel_rfl)) ?_
  intro W base args ds gs before hval0 hW hcnd _
  have hval : ∀ (j : Nat) t v, Try.f6.params[j]? = some t → args[j]? = some v → Value.okWide Try.prog W .any base t v := hval0
  have hW' := hW
  obtain ⟨p, q, hA0, hV, rfl, hfz, hnd⟩ := hW
  have hA : DataW.TrodAll enc Try.prog W 0 (fun _ => true) true Try.f6.params.toList args.toList ds p := hA0
  rw [Try.params6] at hA hval
  obtain ⟨v0, vs0, d0, ds0, p0, q0, hargs, rfl, rfl, h0, r0⟩ := trodAll_cons hA
  obtain ⟨rfl, rfl, rfl⟩ := trodAll_nil r0
  obtain rfl : args = #[v0] := by cases args; simp_all
  obtain ⟨rfl, rfl⟩ := trodVars_none hV
  have k0 := h0
  have lt0 : ∀ x ∈ p0, x.block < W.heap.size := by obtain ⟨m, hm⟩ := k0; exact DataW.trod_lt m _ _ _ hm
  obtain ⟨sp0, ln0, cp0, rfl⟩ := okWide_slice Try.underlying49 (hval 0 49 v0 rfl rfl)
  obtain ⟨gc0, oc0, w0, cd0⟩ := code_open h0
  clear hA0 hval0
  refine (walk sp0 ln0 cp0 gc0 oc0 W w0 cd0).mono fun e W' ⟨he, bel⟩ => ?_
  subst he
  exact ⟨_, rfl, _, _, _, [], _, [], hW', trodAll_mk1 (shut_bool Try.underlying4 _), (trodAll_cons_mk (Below.trod laidOut (by kernel_rfl) (of_decide_eq_true (by kernel_rfl)) k0 bel lt0) trodAll_mk0), rfl, bel.frame _, fun h => by cases h⟩

theorem over : Rows.fnBeltRoomRow.holds Try.pinned (OpenSpec.ofChange Rows.fnBeltRoomSpec) :=
  OpenClaim.holds_of_wide 6 Try.f6 rfl rfl rfl rfl rfl rfl rfl ⟨rfl, rfl, rfl, rfl, rfl⟩ rfl rfl rfl rfl rfl (by kernel_rfl) Try.func6 (by kernel_rfl)
    (of_decide_eq_true (by kernel_rfl)) (by unfold Func.isWrapper; first | (rw [if_pos (by decide +kernel)]; kernel_rfl) | (rw [if_neg (by decide +kernel)]; exact ⟨rfl, rfl⟩))
    (fun os started H enc _ => lifted os started H enc)

/-- The statement. -/
theorem proved : Rows.FnBeltRoomSaid := over
#print axioms proved
end Go.Proofs.Ytobcgidakbbhpab.fnBeltRoom
