/- For every belt the exact law of Leave returns true, and the arguments read as before. No condition. -/
import Derived.Test.YtfeofokcidfffaaRows
import Derived.Test.YtfeofokcidfffaaBeltLaw
import Derived.Test.YtfeofokcidfffaaOpen
import Derived.Test.YtfeofokcidfffaaLeave
import Derived.Test.YtfeofokcidfffaaLeaveU
import Derived.Deep.CutRange
import Derived.Deep.RegionWith
import Derived.OpenShut
import Derived.ChangeOld
import Derived.Lib.SmallJoins
namespace Go.Proofs.Ytfeofokcidfffaa.fnExactLeave
open Go.ChangeShapes Go.WideShapes Go.ChangeAt Go.RowKit
set_option linter.unusedVariables false

set_option maxRecDepth 100000 in
set_option maxHeartbeats 4000000 in
theorem walk (L G : Int) (H : Bool) (p : Option Addr) (c g o n : Nat) (z : Nat → Int) (w : World) (hnc : n ≤ c) (hcm : c ≤ maxLen) (h : FlatAt w 0 w.heap.size p g o (n * 3) (fun j => .int .i64 (z j))) (wL : (Lit.int .i64 L).wf = true) (wG : (Lit.int .i64 G).wf = true) :
    Calls Try.prog 9 #[.agg #[.int .i64 L, .int .i64 G, .bool H, .slice p n c]] w fun e w' => e = .returned (.bool true) ∧ Below w.heap.size w w' := by
  have hsz := Lib.hid (fun W => szBelt_any n p c 1048576 (by omega) (by omega) L G H W)
  by_cases hn : n ≤ 1048576
  · simp only [if_pos hn] at hsz
    obtain ⟨n2, z2, i2, b2, hn2, hS, hI⟩ : ∃ (n2 : Nat) (z2 : Nat → Int) (i2 : Int) (b2 : Bool), n2 ≤ 1048576 ∧ Hid (∀ (W : World) (p : Option Addr) (c g o : Nat), n ≤ c → FlatAt W 0 W.heap.size p g o (n * 3) (fun j => .int .i64 (z j)) → Calls Try.prog 32 #[.agg #[.int .i64 L, .int .i64 G, .bool H, .slice p n c]] W fun e w' => ∃ p' c', e = .returned (.tuple #[.agg #[.int .i64 L, .int .i64 G, .bool H, .slice p' n2 c'], .int .i64 i2, .bool b2]) ∧ n2 ≤ c' ∧ RowNew w' W.heap.size p' (n2 * 3) z2 ∧ Below W.heap.size W w') ∧ Hid (∀ (W : World) (p : Option Addr) (c g o : Nat), n ≤ c → FlatAt W 0 W.heap.size p g o (n * 3) (fun j => .int .i64 (z j)) → Calls Try.prog 33 #[.agg #[.int .i64 L, .int .i64 G, .bool H, .slice p n c]] W fun e w' => ∃ p' c', e = .returned (.tuple #[.agg #[.int .i64 L, .int .i64 G, .bool H, .slice p' n2 c'], .int .i64 i2, .bool b2]) ∧ n2 ≤ c' ∧ RowNew w' W.heap.size p' (n2 * 3) z2 ∧ Below W.heap.size W w') := ⟨lvN L G H n z, lvZ L G H n z, lvB L G H n z, lvOk L G H n z, (by unfold lvN; split <;> omega), fun W p c g o hc hF => sLeave_any n hn z p c g o L G H W hF, fun W p c g o hc hF => iLeave_any n hn z p c g o L G H W hF hc⟩
    cases b2
    all_goals
      have F0 := Lib.hid h
      have BW := Lib.hid (Below.refl w.heap.size w)
      clear h
      go_enter Try.func9, Try.ntmps9
      have hcon := Lib.hid (fun W (hW : Below w.heap.size w W) => hsz.out W)
      go_wp2_with fail
      refine (hcon.out _ (by repeat (first | exact Below.refl _ _ | refine Below.alloc ?_ (by simp <;> omega) _ | refine Below.drew ?_))).mono ?_
      clear hcon
      rintro e w1 ⟨rfl, hb⟩
      have cc : Below w.heap.size w w1 := below_via hb (by repeat (first | exact Below.refl _ _ | refine Below.alloc ?_ (by simp <;> omega) _ | refine Below.drew ?_)) (by simp <;> omega)
      have szw1 : w.heap.size + 1 ≤ w1.heap.size := by have := hb.size; simp at this; omega
      have XA : Hid (w1.heap[w.heap.size]? = some (.cells #[.int .i64 L, .int .i64 G, .bool H, .slice p n c] 41 (0, 0))) := (hb.block (w.heap.size) (by simp <;> omega)).trans (heap_new _ _ _ (by simp))
      have BV := Lib.hid (BW.out.trans (cc.mono (by omega)))
      clear BW cc hb
      have BW := BV
      clear BV
      obtain ⟨xA0, xA1, xA2, xA3, -, -, -, -⟩ := cells4 XA.out
      have lA : w.heap.size < w1.heap.size := by omega
      have mA : w1.heap.size ≠ w.heap.size := by omega
      have hcon := Lib.hid (fun W (hW : Below w1.heap.size w1 W) => toBelt_any n hn z p c g o L G H W ((F0.out.below (BW.out.trans (hW.mono (by omega))) (Nat.le_refl _)).wide (Nat.zero_le _) (by have := BW.out.size; have := hW.size; omega)))
      go_wp2_with fail
      refine (hcon.out _ (by repeat (first | exact Below.refl _ _ | refine Below.alloc ?_ (by simp <;> omega) _ | refine Below.drew ?_))).mono ?_
      clear hcon
      rintro e w2 ⟨pa, ca, ga, rfl, hca, hr, he, hb⟩
      clear xA0 xA1 xA2 xA3 lA mA
      have cc : Below w1.heap.size w1 w2 := below_via hb (by repeat (first | exact Below.refl _ _ | refine Below.alloc ?_ (by simp <;> omega) _ | refine Below.drew ?_)) (by simp <;> omega)
      have szw2 : w1.heap.size ≤ w2.heap.size := hb.size
      have YA := Lib.hid ((cc.block (w.heap.size) (by omega)).trans XA.out)
      have BV := Lib.hid (BW.out.trans (cc.mono (by omega)))
      clear XA BW cc hb
      have XA := YA
      clear YA
      have BW := BV
      clear BV
      have Ra := Lib.hid (hr.wide (show w1.heap.size ≤ _ by simp) (Nat.le_refl _))
      have Ea := Lib.hid he
      clear hr he
      obtain ⟨xA0, xA1, xA2, xA3, -, -, -, -⟩ := cells4 XA.out
      have lA : w.heap.size < w2.heap.size := by omega
      have mA : w2.heap.size ≠ w.heap.size := by omega
      have hcon := Lib.hid (fun W (hW : Below w2.heap.size w2 W) => hS.out W pa ca ga 0 hca ((Ra.out.below hW (by omega)).wide (Nat.zero_le _) (by have := hW.size; omega)))
      go_wp2_with fail
      refine (hcon.out _ (by repeat (first | exact Below.refl _ _ | refine Below.alloc ?_ (by simp <;> omega) _ | refine Below.drew ?_))).mono ?_
      clear hcon
      rintro e w3 ⟨pS, cS, rfl, hcS, hrn, hb⟩
      obtain ⟨gS, oS, hr, he⟩ := hrn.row
      clear xA0 xA1 xA2 xA3 lA mA
      have cc : Below w2.heap.size w2 w3 := below_via hb (by repeat (first | exact Below.refl _ _ | refine Below.alloc ?_ (by simp <;> omega) _ | refine Below.drew ?_)) (by simp <;> omega)
      have szw3 : w2.heap.size ≤ w3.heap.size := hb.size
      have YA := Lib.hid ((cc.block (w.heap.size) (by omega)).trans XA.out)
      have Fa := Lib.hid (Ea.out.below cc (fun hm => by have := (Ra.out.1 hm).2.2; omega))
      have Qa := Lib.hid (Ra.out.below cc (by omega))
      have BV := Lib.hid (BW.out.trans (cc.mono (by omega)))
      clear XA Ea Ra BW cc hb
      have XA := YA
      clear YA
      have Ea := Fa
      clear Fa
      have Ra := Qa
      clear Qa
      have BW := BV
      clear BV
      have RS := Lib.hid (hr.wide (show w2.heap.size ≤ _ by simp) (Nat.le_refl _))
      have ES := Lib.hid he
      clear hr he
      obtain ⟨xA0, xA1, xA2, xA3, -, -, -, -⟩ := cells4 XA.out
      have lA : w.heap.size < w3.heap.size := by omega
      have mA : w3.heap.size ≠ w.heap.size := by omega
      have hcon := Lib.hid (fun W (hW : Below w3.heap.size w3 W) => toBelt_any n hn z p c g o L G H W ((F0.out.below (BW.out.trans (hW.mono (by omega))) (Nat.le_refl _)).wide (Nat.zero_le _) (by have := BW.out.size; have := hW.size; omega)))
      go_wp2_with fail
      refine (hcon.out _ (by repeat (first | exact Below.refl _ _ | refine Below.alloc ?_ (by simp <;> omega) _ | refine Below.drew ?_))).mono ?_
      clear hcon
      rintro e w4 ⟨pb, cb, gb, rfl, hcb, hr, he, hb⟩
      clear xA0 xA1 xA2 xA3 lA mA
      have cc : Below w3.heap.size w3 w4 := below_via hb (by repeat (first | exact Below.refl _ _ | refine Below.alloc ?_ (by simp <;> omega) _ | refine Below.drew ?_)) (by simp <;> omega)
      have szw4 : w3.heap.size + 1 ≤ w4.heap.size := by have := hb.size; simp at this; omega
      have YA := Lib.hid ((cc.block (w.heap.size) (by omega)).trans XA.out)
      have XS : Hid (w4.heap[w3.heap.size]? = some (.cells #[.int .i64 L, .int .i64 G, .bool H, .slice pS n2 cS] 24 (0, 0))) := (hb.block (w3.heap.size) (by simp <;> omega)).trans (heap_new _ _ _ (by simp))
      have Fa := Lib.hid (Ea.out.below cc (fun hm => by have := (Ra.out.1 hm).2.2; omega))
      have Qa := Lib.hid (Ra.out.below cc (by omega))
      have FS := Lib.hid (ES.out.below cc (fun hm => by have := (RS.out.1 hm).2.2; omega))
      have QS := Lib.hid (RS.out.below cc (by omega))
      have BV := Lib.hid (BW.out.trans (cc.mono (by omega)))
      clear XA Ea Ra ES RS BW cc hb
      have XA := YA
      clear YA
      have Ea := Fa
      clear Fa
      have Ra := Qa
      clear Qa
      have ES := FS
      clear FS
      have RS := QS
      clear QS
      have BW := BV
      clear BV
      have Rb := Lib.hid (hr.wide (show w3.heap.size + 1 ≤ _ by simp) (Nat.le_refl _))
      have Eb := Lib.hid he
      clear hr he
      obtain ⟨xA0, xA1, xA2, xA3, -, -, -, -⟩ := cells4 XA.out
      have lA : w.heap.size < w4.heap.size := by omega
      have mA : w4.heap.size ≠ w.heap.size := by omega
      obtain ⟨xS0, xS1, xS2, xS3, -, -, -, -⟩ := cells4 XS.out
      have lS : w3.heap.size < w4.heap.size := by omega
      have mS : w4.heap.size ≠ w3.heap.size := by omega
      have hcon := Lib.hid (fun W (hW : Below w4.heap.size w4 W) => hI.out W pb cb gb 0 hcb ((Rb.out.below hW (by omega)).wide (Nat.zero_le _) (by have := hW.size; omega)))
      go_wp2_with fail
      refine (hcon.out _ (by repeat (first | exact Below.refl _ _ | refine Below.alloc ?_ (by simp <;> omega) _ | refine Below.drew ?_))).mono ?_
      clear hcon
      rintro e w5 ⟨pG, cG, rfl, hcG, hrn, hb⟩
      obtain ⟨gG, oG, hr, he⟩ := hrn.row
      clear xA0 xA1 xA2 xA3 xS0 xS1 xS2 xS3 lA mA lS mS
      have cc : Below w4.heap.size w4 w5 := below_via hb (by repeat (first | exact Below.refl _ _ | refine Below.alloc ?_ (by simp <;> omega) _ | refine Below.drew ?_)) (by simp <;> omega)
      have szw5 : w4.heap.size + 1 ≤ w5.heap.size := by have := hb.size; simp at this; omega
      have YA := Lib.hid ((cc.block (w.heap.size) (by omega)).trans XA.out)
      have YS := Lib.hid ((cc.block (w3.heap.size) (by omega)).trans XS.out)
      have XB : Hid (w5.heap[w4.heap.size]? = some (.cells #[.int .i64 L, .int .i64 G, .bool H, .slice pb n cb] 24 (0, 0))) := (hb.block (w4.heap.size) (by simp <;> omega)).trans (heap_new _ _ _ (by simp))
      have Fa := Lib.hid (Ea.out.below cc (fun hm => by have := (Ra.out.1 hm).2.2; omega))
      have Qa := Lib.hid (Ra.out.below cc (by omega))
      have FS := Lib.hid (ES.out.below cc (fun hm => by have := (RS.out.1 hm).2.2; omega))
      have QS := Lib.hid (RS.out.below cc (by omega))
      have Fb := Lib.hid (Eb.out.below cc (fun hm => by have := (Rb.out.1 hm).2.2; omega))
      have Qb := Lib.hid (Rb.out.below cc (by omega))
      have BV := Lib.hid (BW.out.trans (cc.mono (by omega)))
      clear XA XS Ea Ra ES RS Eb Rb BW cc hb
      have XA := YA
      clear YA
      have XS := YS
      clear YS
      have Ea := Fa
      clear Fa
      have Ra := Qa
      clear Qa
      have ES := FS
      clear FS
      have RS := QS
      clear QS
      have Eb := Fb
      clear Fb
      have Rb := Qb
      clear Qb
      have BW := BV
      clear BV
      have RG := Lib.hid (hr.wide (show w4.heap.size + 1 ≤ _ by simp) (Nat.le_refl _))
      have EG := Lib.hid he
      clear hr he
      obtain ⟨xA0, xA1, xA2, xA3, -, -, -, -⟩ := cells4 XA.out
      have lA : w.heap.size < w5.heap.size := by omega
      have mA : w5.heap.size ≠ w.heap.size := by omega
      obtain ⟨xS0, xS1, xS2, xS3, -, -, -, -⟩ := cells4 XS.out
      have lS : w3.heap.size < w5.heap.size := by omega
      have mS : w5.heap.size ≠ w3.heap.size := by omega
      obtain ⟨xB0, xB1, xB2, xB3, -, -, -, -⟩ := cells4 XB.out
      have lB : w4.heap.size < w5.heap.size := by omega
      have mB : w5.heap.size ≠ w4.heap.size := by omega
      have hcon := Lib.hid (fun W (hW : Below w5.heap.size w5 W) => eqBelt_any (n2) hn2 (z2) pG pS cG cS gG oG gS oS L G H W ((RG.out.below hW (by omega)).wide (Nat.zero_le _) (by have := hW.size; omega)) ((RS.out.below hW (by omega)).wide (Nat.zero_le _) (by have := hW.size; omega)))
      go_wp2_with fail
      refine (hcon.out _ (by repeat (first | exact Below.refl _ _ | refine Below.alloc ?_ (by simp <;> omega) _ | refine Below.drew ?_))).mono ?_
      clear hcon
      rintro e w6 ⟨rfl, hb⟩
      clear xA0 xA1 xA2 xA3 xS0 xS1 xS2 xS3 xB0 xB1 xB2 xB3 lA mA lS mS lB mB
      have cc : Below w5.heap.size w5 w6 := below_via hb (by repeat (first | exact Below.refl _ _ | refine Below.alloc ?_ (by simp <;> omega) _ | refine Below.drew ?_)) (by simp <;> omega)
      have szw6 : w5.heap.size + 1 ≤ w6.heap.size := by have := hb.size; simp at this; omega
      have YA := Lib.hid ((cc.block (w.heap.size) (by omega)).trans XA.out)
      have YS := Lib.hid ((cc.block (w3.heap.size) (by omega)).trans XS.out)
      have YB := Lib.hid ((cc.block (w4.heap.size) (by omega)).trans XB.out)
      have XG : Hid (w6.heap[w5.heap.size]? = some (.cells #[.int .i64 L, .int .i64 G, .bool H, .slice pG n2 cG] 24 (0, 0))) := (hb.block (w5.heap.size) (by simp <;> omega)).trans (heap_new _ _ _ (by simp))
      have Fa := Lib.hid (Ea.out.below cc (fun hm => by have := (Ra.out.1 hm).2.2; omega))
      have Qa := Lib.hid (Ra.out.below cc (by omega))
      have FS := Lib.hid (ES.out.below cc (fun hm => by have := (RS.out.1 hm).2.2; omega))
      have QS := Lib.hid (RS.out.below cc (by omega))
      have Fb := Lib.hid (Eb.out.below cc (fun hm => by have := (Rb.out.1 hm).2.2; omega))
      have Qb := Lib.hid (Rb.out.below cc (by omega))
      have FG := Lib.hid (EG.out.below cc (fun hm => by have := (RG.out.1 hm).2.2; omega))
      have QG := Lib.hid (RG.out.below cc (by omega))
      have BV := Lib.hid (BW.out.trans (cc.mono (by omega)))
      clear XA XS XB Ea Ra ES RS Eb Rb EG RG BW cc hb
      have XA := YA
      clear YA
      have XS := YS
      clear YS
      have XB := YB
      clear YB
      have Ea := Fa
      clear Fa
      have Ra := Qa
      clear Qa
      have ES := FS
      clear FS
      have RS := QS
      clear QS
      have Eb := Fb
      clear Fb
      have Rb := Qb
      clear Qb
      have EG := FG
      clear FG
      have RG := QG
      clear QG
      have BW := BV
      clear BV
      obtain ⟨xA0, xA1, xA2, xA3, -, -, -, -⟩ := cells4 XA.out
      have lA : w.heap.size < w6.heap.size := by omega
      have mA : w6.heap.size ≠ w.heap.size := by omega
      obtain ⟨xS0, xS1, xS2, xS3, -, -, -, -⟩ := cells4 XS.out
      have lS : w3.heap.size < w6.heap.size := by omega
      have mS : w6.heap.size ≠ w3.heap.size := by omega
      obtain ⟨xB0, xB1, xB2, xB3, -, -, -, -⟩ := cells4 XB.out
      have lB : w4.heap.size < w6.heap.size := by omega
      have mB : w6.heap.size ≠ w4.heap.size := by omega
      obtain ⟨xG0, xG1, xG2, xG3, -, -, -, -⟩ := cells4 XG.out
      have lG : w5.heap.size < w6.heap.size := by omega
      have mG : w6.heap.size ≠ w5.heap.size := by omega
      have hto := Lib.hid (fun W (hW : Below w6.heap.size w6 W) => toBelt_any n hn z p c g o L G H W ((F0.out.below (BW.out.trans (hW.mono (by omega))) (Nat.le_refl _)).wide (Nat.zero_le _) (by have := BW.out.size; have := hW.size; omega)))
      have heq := Lib.hid (fun W (hW : Below w6.heap.size w6 W) (p7 : Option Addr) (c7 g7 : Nat) (h7 : FlatAt W 0 W.heap.size p7 g7 0 (n * 3) (fun j => .int .i64 (z j))) => eqBelt_any n hn z pb p7 cb c7 gb 0 g7 0 L G H W ((Rb.out.below hW (by omega)).wide (Nat.zero_le _) (by have := hW.size; omega)) h7)
      go_upto_region 10 with fail
      go_cut [55] from 51 to 55 (fun sr wx => sr = .bool false ∧ Below w6.heap.size w6 wx)
      case first =>
        go_region_with (first | (go_at_call 24; refine (hto.out _ (by repeat (first | exact Below.refl _ _ | refine Below.alloc ?_ (by simp <;> omega) _ | refine Below.drew ?_))).mono ?_; rintro e w7 ⟨p7, c7, g7, rfl, hc7, hr7, he7, hb7⟩; have xb7 := (hb7.block (w4.heap.size) (by simp <;> omega)).trans XB.out; obtain ⟨y0, y1, y2, y3, -, -, -, -⟩ := cells4 xb7; clear xb7) | (go_at_call 25; refine (heq.out _ (below_via hb7 (by repeat (first | exact Below.refl _ _ | refine Below.alloc ?_ (by simp <;> omega) _ | refine Below.drew ?_)) (by simp <;> omega)) p7 c7 g7 (hr7.wide (Nat.zero_le _) (Nat.le_refl _))).mono ?_; rintro e w8 ⟨rfl, hb8⟩))
        all_goals
          have b7 : Below w6.heap.size w6 w7 := below_via hb7 (by repeat (first | exact Below.refl _ _ | refine Below.alloc ?_ (by simp <;> omega) _ | refine Below.drew ?_)) (by simp <;> omega)
          have b8 : Below w6.heap.size w6 w8 := b7.trans (hb8.mono b7.size)
          go_wp2_with fail
          go_meet
          exact ⟨rfl, b8⟩
      case rest =>
        obtain ⟨rfl, hb⟩ := hcut
        clear heq hto
        clear xA0 xA1 xA2 xA3 xS0 xS1 xS2 xS3 xB0 xB1 xB2 xB3 xG0 xG1 xG2 xG3 lA mA lS mS lB mB lG mG
        have cc : Below w6.heap.size w6 wc := below_via hb (by repeat (first | exact Below.refl _ _ | refine Below.alloc ?_ (by simp <;> omega) _ | refine Below.drew ?_)) (by simp <;> omega)
        have szwc : w6.heap.size ≤ wc.heap.size := hb.size
        have YA := Lib.hid ((cc.block (w.heap.size) (by omega)).trans XA.out)
        have YS := Lib.hid ((cc.block (w3.heap.size) (by omega)).trans XS.out)
        have YB := Lib.hid ((cc.block (w4.heap.size) (by omega)).trans XB.out)
        have YG := Lib.hid ((cc.block (w5.heap.size) (by omega)).trans XG.out)
        have Fa := Lib.hid (Ea.out.below cc (fun hm => by have := (Ra.out.1 hm).2.2; omega))
        have Qa := Lib.hid (Ra.out.below cc (by omega))
        have FS := Lib.hid (ES.out.below cc (fun hm => by have := (RS.out.1 hm).2.2; omega))
        have QS := Lib.hid (RS.out.below cc (by omega))
        have Fb := Lib.hid (Eb.out.below cc (fun hm => by have := (Rb.out.1 hm).2.2; omega))
        have Qb := Lib.hid (Rb.out.below cc (by omega))
        have FG := Lib.hid (EG.out.below cc (fun hm => by have := (RG.out.1 hm).2.2; omega))
        have QG := Lib.hid (RG.out.below cc (by omega))
        have BV := Lib.hid (BW.out.trans (cc.mono (by omega)))
        clear XA XS XB XG Ea Ra ES RS Eb Rb EG RG BW cc hb
        have XA := YA
        clear YA
        have XS := YS
        clear YS
        have XB := YB
        clear YB
        have XG := YG
        clear YG
        have Ea := Fa
        clear Fa
        have Ra := Qa
        clear Qa
        have ES := FS
        clear FS
        have RS := QS
        clear QS
        have Eb := Fb
        clear Fb
        have Rb := Qb
        clear Qb
        have EG := FG
        clear FG
        have RG := QG
        clear QG
        have BW := BV
        clear BV
        obtain ⟨mb, hmb⟩ : ∃ m : Nat, m = 1 + n * 3 := ⟨_, rfl⟩
        have hmb9 : mb ≤ 4000000 := by omega
        have HMB := Lib.hid hmb
        clear hmb
        obtain ⟨mg, hmg⟩ : ∃ m : Nat, m = 1 + n2 * 3 := ⟨_, rfl⟩
        have hmg9 : mg ≤ 4000000 := by omega
        have HMG := Lib.hid hmg
        clear hmg
        obtain ⟨xA0, xA1, xA2, xA3, -, -, -, -⟩ := cells4 XA.out
        have lA : w.heap.size < wc.heap.size := by omega
        have mA : wc.heap.size ≠ w.heap.size := by omega
        obtain ⟨xS0, xS1, xS2, xS3, -, -, -, -⟩ := cells4 XS.out
        have lS : w3.heap.size < wc.heap.size := by omega
        have mS : wc.heap.size ≠ w3.heap.size := by omega
        obtain ⟨xB0, xB1, xB2, xB3, -, -, -, -⟩ := cells4 XB.out
        have lB : w4.heap.size < wc.heap.size := by omega
        have mB : wc.heap.size ≠ w4.heap.size := by omega
        obtain ⟨xG0, xG1, xG2, xG3, -, -, -, -⟩ := cells4 XG.out
        have lG : w5.heap.size < wc.heap.size := by omega
        have mG : wc.heap.size ≠ w5.heap.size := by omega
        have hcon := Lib.hid (fun W (hW : Below wc.heap.size wc W) => markBelt_any 1 n hn (by omega) (fun j => .int .i64 (z j)) (w3.heap.size + 1) (w4.heap.size) pb cb gb 0 L G H W (by have := hW.size; omega) (Rb.out.below hW (by omega)) (Eb.out.below hW (fun hm => by have := (Rb.out.1 hm).2.2; omega)))
        go_wp2_with fail
        refine (hcon.out _ (by repeat (first | exact Below.refl _ _ | refine Below.alloc ?_ (by simp <;> omega) _ | refine Below.drew ?_))).mono ?_
        clear hcon
        rw [← HMB.out]
        rintro e w9 ⟨rfl, hr, he, hb⟩
        clear xA0 xA1 xA2 xA3 xS0 xS1 xS2 xS3 xB0 xB1 xB2 xB3 xG0 xG1 xG2 xG3 lA mA lS mS lB mB lG mG
        have cc : Touch (w3.heap.size + 1) (w4.heap.size) wc w9 := (Touch.of_below (by repeat (first | exact Below.refl _ _ | refine Below.alloc ?_ (by simp <;> omega) _ | refine Below.drew ?_))).trans hb
        have szw9 : wc.heap.size ≤ w9.heap.size := hb.size
        have YA := Lib.hid ((cc.block (w.heap.size) (by omega) (by omega)).trans XA.out)
        have YS := Lib.hid ((cc.block (w3.heap.size) (by omega) (by omega)).trans XS.out)
        have YB := Lib.hid ((cc.block (w4.heap.size) (by omega) (by omega)).trans XB.out)
        have YG := Lib.hid ((cc.block (w5.heap.size) (by omega) (by omega)).trans XG.out)
        have Fa := Lib.hid (Ea.out.touch Ra.out cc (by omega) (by omega))
        have Qa := Lib.hid (Ra.out.touch cc (by omega) (by omega))
        have FS := Lib.hid (ES.out.touch RS.out cc (by omega) (by omega))
        have QS := Lib.hid (RS.out.touch cc (by omega) (by omega))
        have FG := Lib.hid (EG.out.touch RG.out cc (by omega) (by omega))
        have QG := Lib.hid (RG.out.touch cc (by omega) (by omega))
        have BV := Lib.hid (BW.out.trans (cc.below (by omega) (by omega)))
        clear XA XS XB XG Ea Ra ES RS EG RG BW Rb Eb cc hb
        have XA := YA
        clear YA
        have XS := YS
        clear YS
        have XB := YB
        clear YB
        have XG := YG
        clear YG
        have Ea := Fa
        clear Fa
        have Ra := Qa
        clear Qa
        have ES := FS
        clear FS
        have RS := QS
        clear QS
        have EG := FG
        clear FG
        have RG := QG
        clear QG
        have BW := BV
        clear BV
        have Rb := Lib.hid hr
        have Eb := Lib.hid he
        clear hr he
        obtain ⟨xA0, xA1, xA2, xA3, -, -, -, -⟩ := cells4 XA.out
        have lA : w.heap.size < w9.heap.size := by omega
        have mA : w9.heap.size ≠ w.heap.size := by omega
        obtain ⟨xS0, xS1, xS2, xS3, -, -, -, -⟩ := cells4 XS.out
        have lS : w3.heap.size < w9.heap.size := by omega
        have mS : w9.heap.size ≠ w3.heap.size := by omega
        obtain ⟨xB0, xB1, xB2, xB3, -, -, -, -⟩ := cells4 XB.out
        have lB : w4.heap.size < w9.heap.size := by omega
        have mB : w9.heap.size ≠ w4.heap.size := by omega
        obtain ⟨xG0, xG1, xG2, xG3, -, -, -, -⟩ := cells4 XG.out
        have lG : w5.heap.size < w9.heap.size := by omega
        have mG : w9.heap.size ≠ w5.heap.size := by omega
        have hcon := Lib.hid (fun W (hW : Below w9.heap.size w9 W) => eqBelt_any (n2) hn2 (z2) pG pS cG cS gG oG gS oS L G H W ((RG.out.below hW (by omega)).wide (Nat.zero_le _) (by have := hW.size; omega)) ((RS.out.below hW (by omega)).wide (Nat.zero_le _) (by have := hW.size; omega)))
        go_wp2_with fail
        refine (hcon.out _ (by repeat (first | exact Below.refl _ _ | refine Below.alloc ?_ (by simp <;> omega) _ | refine Below.drew ?_))).mono ?_
        clear hcon
        rintro e w10 ⟨rfl, hb⟩
        clear xA0 xA1 xA2 xA3 xS0 xS1 xS2 xS3 xB0 xB1 xB2 xB3 xG0 xG1 xG2 xG3 lA mA lS mS lB mB lG mG
        have cc : Below w9.heap.size w9 w10 := below_via hb (by repeat (first | exact Below.refl _ _ | refine Below.alloc ?_ (by simp <;> omega) _ | refine Below.drew ?_)) (by simp <;> omega)
        have szw10 : w9.heap.size ≤ w10.heap.size := hb.size
        have YA := Lib.hid ((cc.block (w.heap.size) (by omega)).trans XA.out)
        have YS := Lib.hid ((cc.block (w3.heap.size) (by omega)).trans XS.out)
        have YB := Lib.hid ((cc.block (w4.heap.size) (by omega)).trans XB.out)
        have YG := Lib.hid ((cc.block (w5.heap.size) (by omega)).trans XG.out)
        have Fa := Lib.hid (Ea.out.below cc (fun hm => by have := (Ra.out.1 hm).2.2; omega))
        have Qa := Lib.hid (Ra.out.below cc (by omega))
        have FS := Lib.hid (ES.out.below cc (fun hm => by have := (RS.out.1 hm).2.2; omega))
        have QS := Lib.hid (RS.out.below cc (by omega))
        have Fb := Lib.hid (Eb.out.below cc (fun hm => by have := (Rb.out.1 hm).2.2; omega))
        have Qb := Lib.hid (Rb.out.below cc (by omega))
        have FG := Lib.hid (EG.out.below cc (fun hm => by have := (RG.out.1 hm).2.2; omega))
        have QG := Lib.hid (RG.out.below cc (by omega))
        have BV := Lib.hid (BW.out.trans (cc.mono (by omega)))
        clear XA XS XB XG Ea Ra ES RS Eb Rb EG RG BW cc hb
        have XA := YA
        clear YA
        have XS := YS
        clear YS
        have XB := YB
        clear YB
        have XG := YG
        clear YG
        have Ea := Fa
        clear Fa
        have Ra := Qa
        clear Qa
        have ES := FS
        clear FS
        have RS := QS
        clear QS
        have Eb := Fb
        clear Fb
        have Rb := Qb
        clear Qb
        have EG := FG
        clear FG
        have RG := QG
        clear QG
        have BW := BV
        clear BV
        obtain ⟨xA0, xA1, xA2, xA3, -, -, -, -⟩ := cells4 XA.out
        have lA : w.heap.size < w10.heap.size := by omega
        have mA : w10.heap.size ≠ w.heap.size := by omega
        obtain ⟨xS0, xS1, xS2, xS3, -, -, -, -⟩ := cells4 XS.out
        have lS : w3.heap.size < w10.heap.size := by omega
        have mS : w10.heap.size ≠ w3.heap.size := by omega
        obtain ⟨xB0, xB1, xB2, xB3, -, -, -, -⟩ := cells4 XB.out
        have lB : w4.heap.size < w10.heap.size := by omega
        have mB : w10.heap.size ≠ w4.heap.size := by omega
        obtain ⟨xG0, xG1, xG2, xG3, -, -, -, -⟩ := cells4 XG.out
        have lG : w5.heap.size < w10.heap.size := by omega
        have mG : w10.heap.size ≠ w5.heap.size := by omega
        have hcon := Lib.hid (fun W (hW : Below w10.heap.size w10 W) => markBelt_any 1 n2 hn2 (by omega) (fun j => .int .i64 (z2 j)) (w4.heap.size + 1) (w5.heap.size) pG cG gG oG L G H W (by have := hW.size; omega) (RG.out.below hW (by omega)) (EG.out.below hW (fun hm => by have := (RG.out.1 hm).2.2; omega)))
        go_wp2_with fail
        refine (hcon.out _ (by repeat (first | exact Below.refl _ _ | refine Below.alloc ?_ (by simp <;> omega) _ | refine Below.drew ?_))).mono ?_
        clear hcon
        rw [← HMG.out]
        rintro e w11 ⟨rfl, hr, he, hb⟩
        clear xA0 xA1 xA2 xA3 xS0 xS1 xS2 xS3 xB0 xB1 xB2 xB3 xG0 xG1 xG2 xG3 lA mA lS mS lB mB lG mG
        have cc : Touch (w4.heap.size + 1) (w5.heap.size) w10 w11 := (Touch.of_below (by repeat (first | exact Below.refl _ _ | refine Below.alloc ?_ (by simp <;> omega) _ | refine Below.drew ?_))).trans hb
        have szw11 : w10.heap.size ≤ w11.heap.size := hb.size
        have YA := Lib.hid ((cc.block (w.heap.size) (by omega) (by omega)).trans XA.out)
        have YS := Lib.hid ((cc.block (w3.heap.size) (by omega) (by omega)).trans XS.out)
        have YB := Lib.hid ((cc.block (w4.heap.size) (by omega) (by omega)).trans XB.out)
        have YG := Lib.hid ((cc.block (w5.heap.size) (by omega) (by omega)).trans XG.out)
        have Fa := Lib.hid (Ea.out.touch Ra.out cc (by omega) (by omega))
        have Qa := Lib.hid (Ra.out.touch cc (by omega) (by omega))
        have FS := Lib.hid (ES.out.touch RS.out cc (by omega) (by omega))
        have QS := Lib.hid (RS.out.touch cc (by omega) (by omega))
        have Fb := Lib.hid (Eb.out.touch Rb.out cc (by omega) (by omega))
        have Qb := Lib.hid (Rb.out.touch cc (by omega) (by omega))
        have BV := Lib.hid (BW.out.trans (cc.below (by omega) (by omega)))
        clear XA XS XB XG Ea Ra ES RS Eb Rb BW RG EG cc hb
        have XA := YA
        clear YA
        have XS := YS
        clear YS
        have XB := YB
        clear YB
        have XG := YG
        clear YG
        have Ea := Fa
        clear Fa
        have Ra := Qa
        clear Qa
        have ES := FS
        clear FS
        have RS := QS
        clear QS
        have Eb := Fb
        clear Fb
        have Rb := Qb
        clear Qb
        have BW := BV
        clear BV
        have RG := Lib.hid hr
        have EG := Lib.hid he
        clear hr he
        obtain ⟨xA0, xA1, xA2, xA3, -, -, -, -⟩ := cells4 XA.out
        have lA : w.heap.size < w11.heap.size := by omega
        have mA : w11.heap.size ≠ w.heap.size := by omega
        obtain ⟨xS0, xS1, xS2, xS3, -, -, -, -⟩ := cells4 XS.out
        have lS : w3.heap.size < w11.heap.size := by omega
        have mS : w11.heap.size ≠ w3.heap.size := by omega
        obtain ⟨xB0, xB1, xB2, xB3, -, -, -, -⟩ := cells4 XB.out
        have lB : w4.heap.size < w11.heap.size := by omega
        have mB : w11.heap.size ≠ w4.heap.size := by omega
        obtain ⟨xG0, xG1, xG2, xG3, -, -, -, -⟩ := cells4 XG.out
        have lG : w5.heap.size < w11.heap.size := by omega
        have mG : w11.heap.size ≠ w5.heap.size := by omega
        have hcon := Lib.hid (fun W (hW : Below w11.heap.size w11 W) => heldBelt_any 1 n2 hn2 (by omega) pG cG gG oG L G H W ((RG.out.below hW (by omega)).wide (Nat.zero_le _) (by have := hW.size; omega)))
        go_wp2_with fail
        refine (hcon.out _ (by repeat (first | exact Below.refl _ _ | refine Below.alloc ?_ (by simp <;> omega) _ | refine Below.drew ?_))).mono ?_
        clear hcon
        rw [← HMG.out]
        rintro e w12 ⟨rfl, hb⟩
        clear xA0 xA1 xA2 xA3 xS0 xS1 xS2 xS3 xB0 xB1 xB2 xB3 xG0 xG1 xG2 xG3 lA mA lS mS lB mB lG mG
        have cc : Below w11.heap.size w11 w12 := below_via hb (by repeat (first | exact Below.refl _ _ | refine Below.alloc ?_ (by simp <;> omega) _ | refine Below.drew ?_)) (by simp <;> omega)
        have szw12 : w11.heap.size ≤ w12.heap.size := hb.size
        have YA := Lib.hid ((cc.block (w.heap.size) (by omega)).trans XA.out)
        have YS := Lib.hid ((cc.block (w3.heap.size) (by omega)).trans XS.out)
        have YB := Lib.hid ((cc.block (w4.heap.size) (by omega)).trans XB.out)
        have YG := Lib.hid ((cc.block (w5.heap.size) (by omega)).trans XG.out)
        have Fa := Lib.hid (Ea.out.below cc (fun hm => by have := (Ra.out.1 hm).2.2; omega))
        have Qa := Lib.hid (Ra.out.below cc (by omega))
        have FS := Lib.hid (ES.out.below cc (fun hm => by have := (RS.out.1 hm).2.2; omega))
        have QS := Lib.hid (RS.out.below cc (by omega))
        have Fb := Lib.hid (Eb.out.below cc (fun hm => by have := (Rb.out.1 hm).2.2; omega))
        have Qb := Lib.hid (Rb.out.below cc (by omega))
        have FG := Lib.hid (EG.out.below cc (fun hm => by have := (RG.out.1 hm).2.2; omega))
        have QG := Lib.hid (RG.out.below cc (by omega))
        have BV := Lib.hid (BW.out.trans (cc.mono (by omega)))
        clear XA XS XB XG Ea Ra ES RS Eb Rb EG RG BW cc hb
        have XA := YA
        clear YA
        have XS := YS
        clear YS
        have XB := YB
        clear YB
        have XG := YG
        clear YG
        have Ea := Fa
        clear Fa
        have Ra := Qa
        clear Qa
        have ES := FS
        clear FS
        have RS := QS
        clear QS
        have Eb := Fb
        clear Fb
        have Rb := Qb
        clear Qb
        have EG := FG
        clear FG
        have RG := QG
        clear QG
        have BW := BV
        clear BV
        obtain ⟨xA0, xA1, xA2, xA3, -, -, -, -⟩ := cells4 XA.out
        have lA : w.heap.size < w12.heap.size := by omega
        have mA : w12.heap.size ≠ w.heap.size := by omega
        obtain ⟨xS0, xS1, xS2, xS3, -, -, -, -⟩ := cells4 XS.out
        have lS : w3.heap.size < w12.heap.size := by omega
        have mS : w12.heap.size ≠ w3.heap.size := by omega
        obtain ⟨xB0, xB1, xB2, xB3, -, -, -, -⟩ := cells4 XB.out
        have lB : w4.heap.size < w12.heap.size := by omega
        have mB : w12.heap.size ≠ w4.heap.size := by omega
        obtain ⟨xG0, xG1, xG2, xG3, -, -, -, -⟩ := cells4 XG.out
        have lG : w5.heap.size < w12.heap.size := by omega
        have mG : w12.heap.size ≠ w5.heap.size := by omega
        have hcon := Lib.hid (fun W (hW : Below w12.heap.size w12 W) => toBelt_any n hn z p c g o L G H W ((F0.out.below (BW.out.trans (hW.mono (by omega))) (Nat.le_refl _)).wide (Nat.zero_le _) (by have := BW.out.size; have := hW.size; omega)))
        go_wp2_with fail
        refine (hcon.out _ (by repeat (first | exact Below.refl _ _ | refine Below.alloc ?_ (by simp <;> omega) _ | refine Below.drew ?_))).mono ?_
        clear hcon
        rintro e w13 ⟨pd, cd, gd, rfl, hcd, hr, he, hb⟩
        clear xA0 xA1 xA2 xA3 xS0 xS1 xS2 xS3 xB0 xB1 xB2 xB3 xG0 xG1 xG2 xG3 lA mA lS mS lB mB lG mG
        have cc : Below w12.heap.size w12 w13 := below_via hb (by repeat (first | exact Below.refl _ _ | refine Below.alloc ?_ (by simp <;> omega) _ | refine Below.drew ?_)) (by simp <;> omega)
        have szw13 : w12.heap.size ≤ w13.heap.size := hb.size
        have YA := Lib.hid ((cc.block (w.heap.size) (by omega)).trans XA.out)
        have YS := Lib.hid ((cc.block (w3.heap.size) (by omega)).trans XS.out)
        have YB := Lib.hid ((cc.block (w4.heap.size) (by omega)).trans XB.out)
        have YG := Lib.hid ((cc.block (w5.heap.size) (by omega)).trans XG.out)
        have Fa := Lib.hid (Ea.out.below cc (fun hm => by have := (Ra.out.1 hm).2.2; omega))
        have Qa := Lib.hid (Ra.out.below cc (by omega))
        have FS := Lib.hid (ES.out.below cc (fun hm => by have := (RS.out.1 hm).2.2; omega))
        have QS := Lib.hid (RS.out.below cc (by omega))
        have Fb := Lib.hid (Eb.out.below cc (fun hm => by have := (Rb.out.1 hm).2.2; omega))
        have Qb := Lib.hid (Rb.out.below cc (by omega))
        have FG := Lib.hid (EG.out.below cc (fun hm => by have := (RG.out.1 hm).2.2; omega))
        have QG := Lib.hid (RG.out.below cc (by omega))
        have BV := Lib.hid (BW.out.trans (cc.mono (by omega)))
        clear XA XS XB XG Ea Ra ES RS Eb Rb EG RG BW cc hb
        have XA := YA
        clear YA
        have XS := YS
        clear YS
        have XB := YB
        clear YB
        have XG := YG
        clear YG
        have Ea := Fa
        clear Fa
        have Ra := Qa
        clear Qa
        have ES := FS
        clear FS
        have RS := QS
        clear QS
        have Eb := Fb
        clear Fb
        have Rb := Qb
        clear Qb
        have EG := FG
        clear FG
        have RG := QG
        clear QG
        have BW := BV
        clear BV
        have Rd := Lib.hid (hr.wide (show w12.heap.size ≤ _ by simp) (Nat.le_refl _))
        have Ed := Lib.hid he
        clear hr he
        obtain ⟨xA0, xA1, xA2, xA3, -, -, -, -⟩ := cells4 XA.out
        have lA : w.heap.size < w13.heap.size := by omega
        have mA : w13.heap.size ≠ w.heap.size := by omega
        obtain ⟨xS0, xS1, xS2, xS3, -, -, -, -⟩ := cells4 XS.out
        have lS : w3.heap.size < w13.heap.size := by omega
        have mS : w13.heap.size ≠ w3.heap.size := by omega
        obtain ⟨xB0, xB1, xB2, xB3, -, -, -, -⟩ := cells4 XB.out
        have lB : w4.heap.size < w13.heap.size := by omega
        have mB : w13.heap.size ≠ w4.heap.size := by omega
        obtain ⟨xG0, xG1, xG2, xG3, -, -, -, -⟩ := cells4 XG.out
        have lG : w5.heap.size < w13.heap.size := by omega
        have mG : w13.heap.size ≠ w5.heap.size := by omega
        have hcon := Lib.hid (fun W (hW : Below w13.heap.size w13 W) => hI.out W pd cd gd 0 hcd ((Rd.out.below hW (by omega)).wide (Nat.zero_le _) (by have := hW.size; omega)))
        go_wp2_with fail
        refine (hcon.out _ (by repeat (first | exact Below.refl _ _ | refine Below.alloc ?_ (by simp <;> omega) _ | refine Below.drew ?_))).mono ?_
        clear hcon
        rintro e w14 ⟨pK, cK, rfl, hcK, hrn, hb⟩
        obtain ⟨gK, oK, hr, he⟩ := hrn.row
        clear xA0 xA1 xA2 xA3 xS0 xS1 xS2 xS3 xB0 xB1 xB2 xB3 xG0 xG1 xG2 xG3 lA mA lS mS lB mB lG mG
        have cc : Below w13.heap.size w13 w14 := below_via hb (by repeat (first | exact Below.refl _ _ | refine Below.alloc ?_ (by simp <;> omega) _ | refine Below.drew ?_)) (by simp <;> omega)
        have szw14 : w13.heap.size ≤ w14.heap.size := hb.size
        have YA := Lib.hid ((cc.block (w.heap.size) (by omega)).trans XA.out)
        have YS := Lib.hid ((cc.block (w3.heap.size) (by omega)).trans XS.out)
        have YB := Lib.hid ((cc.block (w4.heap.size) (by omega)).trans XB.out)
        have YG := Lib.hid ((cc.block (w5.heap.size) (by omega)).trans XG.out)
        have Fa := Lib.hid (Ea.out.below cc (fun hm => by have := (Ra.out.1 hm).2.2; omega))
        have Qa := Lib.hid (Ra.out.below cc (by omega))
        have FS := Lib.hid (ES.out.below cc (fun hm => by have := (RS.out.1 hm).2.2; omega))
        have QS := Lib.hid (RS.out.below cc (by omega))
        have Fb := Lib.hid (Eb.out.below cc (fun hm => by have := (Rb.out.1 hm).2.2; omega))
        have Qb := Lib.hid (Rb.out.below cc (by omega))
        have FG := Lib.hid (EG.out.below cc (fun hm => by have := (RG.out.1 hm).2.2; omega))
        have QG := Lib.hid (RG.out.below cc (by omega))
        have Fd := Lib.hid (Ed.out.below cc (fun hm => by have := (Rd.out.1 hm).2.2; omega))
        have Qd := Lib.hid (Rd.out.below cc (by omega))
        have BV := Lib.hid (BW.out.trans (cc.mono (by omega)))
        clear XA XS XB XG Ea Ra ES RS Eb Rb EG RG Ed Rd BW cc hb
        have XA := YA
        clear YA
        have XS := YS
        clear YS
        have XB := YB
        clear YB
        have XG := YG
        clear YG
        have Ea := Fa
        clear Fa
        have Ra := Qa
        clear Qa
        have ES := FS
        clear FS
        have RS := QS
        clear QS
        have Eb := Fb
        clear Fb
        have Rb := Qb
        clear Qb
        have EG := FG
        clear FG
        have RG := QG
        clear QG
        have Ed := Fd
        clear Fd
        have Rd := Qd
        clear Qd
        have BW := BV
        clear BV
        have RK := Lib.hid (hr.wide (show w13.heap.size ≤ _ by simp) (Nat.le_refl _))
        have EK := Lib.hid he
        clear hr he
        obtain ⟨xA0, xA1, xA2, xA3, -, -, -, -⟩ := cells4 XA.out
        have lA : w.heap.size < w14.heap.size := by omega
        have mA : w14.heap.size ≠ w.heap.size := by omega
        obtain ⟨xS0, xS1, xS2, xS3, -, -, -, -⟩ := cells4 XS.out
        have lS : w3.heap.size < w14.heap.size := by omega
        have mS : w14.heap.size ≠ w3.heap.size := by omega
        obtain ⟨xB0, xB1, xB2, xB3, -, -, -, -⟩ := cells4 XB.out
        have lB : w4.heap.size < w14.heap.size := by omega
        have mB : w14.heap.size ≠ w4.heap.size := by omega
        obtain ⟨xG0, xG1, xG2, xG3, -, -, -, -⟩ := cells4 XG.out
        have lG : w5.heap.size < w14.heap.size := by omega
        have mG : w14.heap.size ≠ w5.heap.size := by omega
        have hcon := Lib.hid (fun W (hW : Below w14.heap.size w14 W) => eqBelt_any (n2) hn2 (z2) pK pS cK cS gK oK gS oS L G H W ((RK.out.below hW (by omega)).wide (Nat.zero_le _) (by have := hW.size; omega)) ((RS.out.below hW (by omega)).wide (Nat.zero_le _) (by have := hW.size; omega)))
        go_wp2_with fail
        refine (hcon.out _ (by repeat (first | exact Below.refl _ _ | refine Below.alloc ?_ (by simp <;> omega) _ | refine Below.drew ?_))).mono ?_
        clear hcon
        rintro e w15 ⟨rfl, hb⟩
        clear xA0 xA1 xA2 xA3 xS0 xS1 xS2 xS3 xB0 xB1 xB2 xB3 xG0 xG1 xG2 xG3 lA mA lS mS lB mB lG mG
        have cc : Below w14.heap.size w14 w15 := below_via hb (by repeat (first | exact Below.refl _ _ | refine Below.alloc ?_ (by simp <;> omega) _ | refine Below.drew ?_)) (by simp <;> omega)
        have szw15 : w14.heap.size + 1 ≤ w15.heap.size := by have := hb.size; simp at this; omega
        have YA := Lib.hid ((cc.block (w.heap.size) (by omega)).trans XA.out)
        have YS := Lib.hid ((cc.block (w3.heap.size) (by omega)).trans XS.out)
        have YB := Lib.hid ((cc.block (w4.heap.size) (by omega)).trans XB.out)
        have YG := Lib.hid ((cc.block (w5.heap.size) (by omega)).trans XG.out)
        have XK : Hid (w15.heap[w14.heap.size]? = some (.cells #[.int .i64 L, .int .i64 G, .bool H, .slice pK n2 cK] 24 (0, 0))) := (hb.block (w14.heap.size) (by simp <;> omega)).trans (heap_new _ _ _ (by simp))
        have Fa := Lib.hid (Ea.out.below cc (fun hm => by have := (Ra.out.1 hm).2.2; omega))
        have Qa := Lib.hid (Ra.out.below cc (by omega))
        have FS := Lib.hid (ES.out.below cc (fun hm => by have := (RS.out.1 hm).2.2; omega))
        have QS := Lib.hid (RS.out.below cc (by omega))
        have Fb := Lib.hid (Eb.out.below cc (fun hm => by have := (Rb.out.1 hm).2.2; omega))
        have Qb := Lib.hid (Rb.out.below cc (by omega))
        have FG := Lib.hid (EG.out.below cc (fun hm => by have := (RG.out.1 hm).2.2; omega))
        have QG := Lib.hid (RG.out.below cc (by omega))
        have Fd := Lib.hid (Ed.out.below cc (fun hm => by have := (Rd.out.1 hm).2.2; omega))
        have Qd := Lib.hid (Rd.out.below cc (by omega))
        have FK := Lib.hid (EK.out.below cc (fun hm => by have := (RK.out.1 hm).2.2; omega))
        have QK := Lib.hid (RK.out.below cc (by omega))
        have BV := Lib.hid (BW.out.trans (cc.mono (by omega)))
        clear XA XS XB XG Ea Ra ES RS Eb Rb EG RG Ed Rd EK RK BW cc hb
        have XA := YA
        clear YA
        have XS := YS
        clear YS
        have XB := YB
        clear YB
        have XG := YG
        clear YG
        have Ea := Fa
        clear Fa
        have Ra := Qa
        clear Qa
        have ES := FS
        clear FS
        have RS := QS
        clear QS
        have Eb := Fb
        clear Fb
        have Rb := Qb
        clear Qb
        have EG := FG
        clear FG
        have RG := QG
        clear QG
        have Ed := Fd
        clear Fd
        have Rd := Qd
        clear Qd
        have EK := FK
        clear FK
        have RK := QK
        clear QK
        have BW := BV
        clear BV
        obtain ⟨xA0, xA1, xA2, xA3, -, -, -, -⟩ := cells4 XA.out
        have lA : w.heap.size < w15.heap.size := by omega
        have mA : w15.heap.size ≠ w.heap.size := by omega
        obtain ⟨xS0, xS1, xS2, xS3, -, -, -, -⟩ := cells4 XS.out
        have lS : w3.heap.size < w15.heap.size := by omega
        have mS : w15.heap.size ≠ w3.heap.size := by omega
        obtain ⟨xB0, xB1, xB2, xB3, -, -, -, -⟩ := cells4 XB.out
        have lB : w4.heap.size < w15.heap.size := by omega
        have mB : w15.heap.size ≠ w4.heap.size := by omega
        obtain ⟨xG0, xG1, xG2, xG3, -, -, -, -⟩ := cells4 XG.out
        have lG : w5.heap.size < w15.heap.size := by omega
        have mG : w15.heap.size ≠ w5.heap.size := by omega
        obtain ⟨xK0, xK1, xK2, xK3, -, -, -, -⟩ := cells4 XK.out
        have lK : w14.heap.size < w15.heap.size := by omega
        have mK : w15.heap.size ≠ w14.heap.size := by omega
        have hcon := Lib.hid (fun W (hW : Below w15.heap.size w15 W) => heldBelt_any 1 n2 hn2 (by omega) pG cG gG oG L G H W ((RG.out.below hW (by omega)).wide (Nat.zero_le _) (by have := hW.size; omega)))
        go_wp2_with fail
        refine (hcon.out _ (by repeat (first | exact Below.refl _ _ | refine Below.alloc ?_ (by simp <;> omega) _ | refine Below.drew ?_))).mono ?_
        clear hcon
        rw [← HMG.out]
        rintro e w16 ⟨rfl, hb⟩
        clear xA0 xA1 xA2 xA3 xS0 xS1 xS2 xS3 xB0 xB1 xB2 xB3 xG0 xG1 xG2 xG3 xK0 xK1 xK2 xK3 lA mA lS mS lB mB lG mG lK mK
        have cc : Below w15.heap.size w15 w16 := below_via hb (by repeat (first | exact Below.refl _ _ | refine Below.alloc ?_ (by simp <;> omega) _ | refine Below.drew ?_)) (by simp <;> omega)
        have szw16 : w15.heap.size ≤ w16.heap.size := hb.size
        have YA := Lib.hid ((cc.block (w.heap.size) (by omega)).trans XA.out)
        have YS := Lib.hid ((cc.block (w3.heap.size) (by omega)).trans XS.out)
        have YB := Lib.hid ((cc.block (w4.heap.size) (by omega)).trans XB.out)
        have YG := Lib.hid ((cc.block (w5.heap.size) (by omega)).trans XG.out)
        have YK := Lib.hid ((cc.block (w14.heap.size) (by omega)).trans XK.out)
        have Fa := Lib.hid (Ea.out.below cc (fun hm => by have := (Ra.out.1 hm).2.2; omega))
        have Qa := Lib.hid (Ra.out.below cc (by omega))
        have FS := Lib.hid (ES.out.below cc (fun hm => by have := (RS.out.1 hm).2.2; omega))
        have QS := Lib.hid (RS.out.below cc (by omega))
        have Fb := Lib.hid (Eb.out.below cc (fun hm => by have := (Rb.out.1 hm).2.2; omega))
        have Qb := Lib.hid (Rb.out.below cc (by omega))
        have FG := Lib.hid (EG.out.below cc (fun hm => by have := (RG.out.1 hm).2.2; omega))
        have QG := Lib.hid (RG.out.below cc (by omega))
        have Fd := Lib.hid (Ed.out.below cc (fun hm => by have := (Rd.out.1 hm).2.2; omega))
        have Qd := Lib.hid (Rd.out.below cc (by omega))
        have FK := Lib.hid (EK.out.below cc (fun hm => by have := (RK.out.1 hm).2.2; omega))
        have QK := Lib.hid (RK.out.below cc (by omega))
        have BV := Lib.hid (BW.out.trans (cc.mono (by omega)))
        clear XA XS XB XG XK Ea Ra ES RS Eb Rb EG RG Ed Rd EK RK BW cc hb
        have XA := YA
        clear YA
        have XS := YS
        clear YS
        have XB := YB
        clear YB
        have XG := YG
        clear YG
        have XK := YK
        clear YK
        have Ea := Fa
        clear Fa
        have Ra := Qa
        clear Qa
        have ES := FS
        clear FS
        have RS := QS
        clear QS
        have Eb := Fb
        clear Fb
        have Rb := Qb
        clear Qb
        have EG := FG
        clear FG
        have RG := QG
        clear QG
        have Ed := Fd
        clear Fd
        have Rd := Qd
        clear Qd
        have EK := FK
        clear FK
        have RK := QK
        clear QK
        have BW := BV
        clear BV
        go_wp2_with fail
        go_ret
        exact ⟨rfl, BW.out⟩
  · simp only [if_neg hn] at hsz
    go_enter Try.func9, Try.ntmps9
    go_wp2_with (go_at_call 23; refine (hsz.out _).mono ?_; rintro e w2 ⟨rfl, hb2⟩)
    go_ret
    exact ⟨rfl, below_via hb2 ((Below.refl _ _).alloc (Nat.le_refl _) _) (by simp)⟩

/-! The row's step. -/
theorem own : ownKnob Try.prog.godebug = none := by kernel_rfl
theorem laidOut : laidOutB Try.prog = true := by kernel_rfl
set_option maxRecDepth 100000 in
theorem lifted (os : Os) (started : os.Started) (H : Type) (enc : TypeId × Value → H) :
    ReturnsInHanded {} Try.checked os 9 .any (Rows.fnExactLeaveSpec.pre6 enc Try.prog Try.f9 Rows.fnExactLeaveRow.domain false) (Rows.fnExactLeaveSpec.post enc Try.prog Try.f9 false true false false) := by
  refine returnsInHanded_of_change (C := Try.checked) own started (by kernel_rfl) Try.func9
    (ChangeSpec.witness6 (enc := enc) (C := Try.checked) false ⟨#[], #[.agg #[.int .i64 0, .int .i64 0, .bool false, .slice none 0 0]], []⟩ 8 (by kernel_rfl) (by kernel_rfl) (by kernel_rfl) (by kernel_rfl)) ?_
  intro W base args ds gs before hval0 hW hcnd _
  have hval : ∀ (j : Nat) t v, Try.f9.params[j]? = some t → args[j]? = some v → Value.okWide Try.prog W .any base t v := hval0
  have hW' := hW
  obtain ⟨p, q, hA0, hV, rfl, hfz, hnd⟩ := hW
  have hA : DataW.TrodAll enc Try.prog W 0 (fun _ => true) true Try.f9.params.toList args.toList ds p := hA0
  rw [Try.params9] at hA hval
  obtain ⟨v0, vs0, d0, ds0, p0, q0, hargs, rfl, rfl, h0, r0⟩ := trodAll_cons hA
  obtain ⟨rfl, rfl, rfl⟩ := trodAll_nil r0
  obtain rfl : args = #[v0] := by cases args; simp_all
  obtain ⟨rfl, rfl⟩ := trodVars_none hV
  have k0 := h0
  have lt0 : ∀ x ∈ p0, x.block < W.heap.size := by obtain ⟨m, hm⟩ := k0; exact DataW.trod_lt m _ _ _ hm
  obtain ⟨cL0, cG0, cH0, cS0, yL0, yG0, yH0, yS0, m0, rfl, -, -, hL0, hG0, hH0, hS0⟩ := Joins.open_agg4 Try.underlying41 (by kernel_rfl) (show Try.prog.cellsOf 41 = 4 by kernel_rfl) (hval 0 41 v0 rfl rfl) h0
  obtain ⟨L0, eL0, -, wL0⟩ := DataW.trod_int Try.underlying3 hL0
  obtain ⟨G0, eG0, -, wG0⟩ := DataW.trod_int Try.underlying3 hG0
  obtain ⟨H0, eH0, -⟩ := DataW.trod_bool Try.underlying4 hH0
  simp only [List.cons.injEq, and_true] at eL0 eG0 eH0
  subst eL0 eG0 eH0
  obtain ⟨ps0, n0, c0, rfl⟩ : ∃ ps n c, cS0 = .slice ps n c := by
    rcases Go.Deep.open_slice Try.underlying39 hS0 with ⟨e, -⟩ | ⟨a, l, c, _, _, _, _, e, -⟩
    · simp at e; exact ⟨_, _, _, e⟩
    · simp at e; exact ⟨_, _, _, e⟩
  obtain ⟨g0, o0, z0, nc0, cm0, fl0, -⟩ := open_rows Try.underlying39 Try.underlying92 (by kernel_rfl) (show Try.prog.cellsOf 92 = 3 by kernel_rfl) rfl (by decide) Try.underlying3 (by kernel_rfl) hS0
  clear hA0 hval0
  refine (walk L0 G0 H0 ps0 c0 g0 o0 n0 z0 W nc0 cm0 fl0 wL0 wG0).mono fun e W' ⟨he, bel⟩ => ?_
  subst he
  exact ⟨_, rfl, _, _, _, [], _, [], hW', trodAll_mk1 (shut_bool Try.underlying4 _), (trodAll_cons_mk (Below.trod laidOut (by kernel_rfl) (of_decide_eq_true (by kernel_rfl)) k0 bel lt0) trodAll_mk0), rfl, bel.frame _, fun h => by cases h⟩

theorem over : Rows.fnExactLeaveRow.holds Try.pinned (OpenSpec.ofChange Rows.fnExactLeaveSpec) :=
  OpenClaim.holds_of_wide 9 Try.f9 rfl rfl rfl rfl rfl rfl rfl ⟨rfl, rfl, rfl, rfl, rfl⟩ rfl rfl rfl rfl rfl (by kernel_rfl) Try.func9 (by kernel_rfl)
    (of_decide_eq_true (by kernel_rfl)) (by unfold Func.isWrapper; first | (rw [if_pos (by decide +kernel)]; kernel_rfl) | (rw [if_neg (by decide +kernel)]; exact ⟨rfl, rfl⟩))
    (fun os started H enc _ => lifted os started H enc)

/-- The statement. -/
theorem proved : Rows.FnExactLeaveSaid := over
#print axioms proved
end Go.Proofs.Ytfeofokcidfffaa.fnExactLeave
