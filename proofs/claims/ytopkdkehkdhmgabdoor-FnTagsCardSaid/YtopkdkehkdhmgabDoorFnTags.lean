/- For every code FnTags returns true, and the code reads as before; the listed variables of strconv and math/bits are tied to the program's text. No other condition. -/
import Derived.Test.YtopkdkehkdhmgabDoorCards
import Derived.Test.YtopkdkehkdhmgabDoorTie
import Derived.Test.YtopkdkehkdhmgabDoorLaidErr
import Derived.Test.YtopkdkehkdhmgabDoorTagDraws
import Derived.Test.YtopkdkehkdhmgabDoorTagsPlain
import Derived.Test.YtopkdkehkdhmgabDoorParseTagSpec
import Derived.Test.YtopkdkehkdhmgabDoorFormatTagImpl
import Derived.Test.YtopkdkehkdhmgabDoorLater
import Derived.Test.YtopkdkehkdhmgabDoorBig
import Derived.Test.YtopkdkehkdhmgabDoorCode
import Derived.OpenShut
import Derived.ChangeOld
import Derived.Lib.SmallJoins
import Derived.LaidMore
import Derived.Stop.LaidErr
import Derived.Stop.Joined
import Derived.SevenTiedAt
namespace Go.Proofs.YtopkdkehkdhmgabDoor.fnTags
open Go.ChangeShapes Go.WideShapes Go.ChangeAt Go.RowKit
set_option linter.unusedVariables false

theorem Code.below {B B' n : Nat} {w w' : World} {p : Option Addr} {gc oc : Nat} (h : Code B n w p gc oc) (hb : Below B' w w') (hB : B ≤ B') : Code B n w' p gc oc :=
  ⟨h.1, fun j hj => by obtain ⟨x, hx, hc⟩ := h.2 j hj; exact ⟨x, hx, (hb.cell (p := ⟨gc, oc + j, none⟩) (by have := (h.1 (by omega)).2; show gc < _; omega)).trans hc⟩⟩
theorem cells3b {w : World} {k : Nat} {a b c : Value} {t : TypeId} (h : w.heap[k]? = some (.cells #[a, b, c] t (0, 0))) :
    w.cell? ⟨k, 0, none⟩ = some a ∧ w.cell? ⟨k, 1, none⟩ = some b ∧ w.cell? ⟨k, 2, none⟩ = some c :=
  ⟨by simp [World.cell?, h], by simp [World.cell?, h], by simp [World.cell?, h]⟩
theorem cell1b {w : World} {k : Nat} {v : Value} {t : TypeId} (h : w.heap[k]? = some (.cells #[v] t (0, 0))) : w.cell? ⟨k, 0, none⟩ = some v := by simp [World.cell?, h]
theorem one_conv (wr : World) (k : Nat) (hk : k < 256) : (convert 22 9 (.slice (some ⟨wr.heap.size, 0, none⟩) 1 1)).run Tryd.prog (wr.alloc (.cells #[.int .u8 (k : Int)] 5)).drew = .ok (.string ⟨#[UInt8.ofNat k]⟩) (wr.alloc (.cells #[.int .u8 (k : Int)] 5)).drew := by
  have hW : (wr.alloc (.cells #[.int .u8 (k : Int)] 5)).drew.heap[wr.heap.size]? = some (.cells #[.int .u8 (k : Int)] 5 (0, 0)) := heap_new _ _ _ rfl
  exact run_convert_bytes_back (P := Tryd.prog) _ 22 9 5 ⟨wr.heap.size, 0, none⟩ 1 [UInt8.ofNat k] Tryd.underlying22 Tryd.underlying5 Tryd.underlying9 (fun j hj => by
    obtain rfl : j = 0 := by simp at hj; omega
    have h8 : (UInt8.ofNat k).toNat = k := by rw [UInt8.toNat_ofNat']; omega
    have hc := cell1b hW
    show World.cell? _ ⟨wr.heap.size, 0, none⟩ = some (Value.int .u8 (((UInt8.ofNat k).toNat : Nat) : Int))
    rw [h8]
    exact hc)
theorem other_text (S T O : ByteArray) (hS : S.size = 12) (hT : T.size = 1) (hO : O = S.extract 0 11 ++ T) : O.data.toList.length = 12 ∧ O.size ≤ 1048576 ∧ O.data.toList.take 10 = S.data.toList.take 10 := by
  have hs : S.data.toList.length = 12 := hS
  have ht : T.data.toList.length = 1 := hT
  have hOl : O.data.toList = S.data.toList.take 11 ++ T.data.toList := by rw [hO]; simp
  have hz : O.data.toList.length = 12 := by rw [hOl, List.length_append, List.length_take, hs, ht]; rfl
  refine ⟨hz, ?_, ?_⟩
  · have : O.size = O.data.toList.length := rfl
    omega
  · rw [hOl, List.take_append_of_le_length (by rw [List.length_take, hs]; decide), List.take_take]; rfl
theorem str_eq2 (O S : ByteArray) : decide (O = S) = decide (O.data.toList = S.data.toList) := by
  by_cases e : O = S
  · rw [decide_eq_true e, decide_eq_true (by rw [e])]
  · rw [decide_eq_false e, decide_eq_false]
    intro h
    apply e
    obtain ⟨⟨x⟩⟩ := O
    obtain ⟨⟨y⟩⟩ := S
    simp at h
    rw [h]
theorem str_eq (O S : ByteArray) : (O.toList == S.toList) = decide (O.data.toList = S.data.toList) := by
  rw [ByteArray.toList_eq, ByteArray.toList_eq]
  by_cases e : O.data.toList = S.data.toList
  · rw [decide_eq_true e, e]; simp
  · rw [decide_eq_false e]; simpa using e
theorem not_self (q : Bool) : (!q == q) = false := by cases q <;> rfl
theorem cellsTagD : Tryd.prog.cellsOf 36 = 3 := by kernel_rfl

set_option maxRecDepth 100000 in
set_option maxHeartbeats 4000000 in
theorem walk (p : Option Addr) (n cap gc oc : Nat) (w : World) (hn : n ≤ maxLen) (hC : Code w.heap.size n w p gc oc) (htab : Lib.TabIs Tryd.prog w "internal/strconv.uint64pow10" .u64 Lib.pow10Tab) (hr : ErrIs w "strconv.ErrRange") (hs : ErrIs w "strconv.ErrSyntax") :
    Calls Tryd.prog 6 #[.slice p n cap] w fun e w' => e = .returned (.bool true) ∧ Below w.heap.size w w' := by
  have hbg := Lib.hid (big_any p n cap hn w)
  by_cases hbig : 1048576 < n
  · have hd : decide (1048576 < n) = true := decide_eq_true hbig
    rw [hd] at hbg
    clear htab hr hs hC
    go_enter Tryd.func6, Tryd.ntmps6
    go_wp2_with (go_at_call 7; refine hbg.out.mono ?_; rintro e w' ⟨rfl, rfl⟩)
    go_ret
    exact ⟨rfl, Below.refl _ _⟩
  · have hd : decide (1048576 < n) = false := decide_eq_false hbig
    rw [hd] at hbg
    have hT := Lib.hid (Lib.tabBelow_of_tabIs htab)
    have HR := Lib.hid hr
    have HS := Lib.hid hs
    have HC := Lib.hid hC
    have hn1 : n ≤ 1048576 := by omega
    have HDR := Lib.hid (drawTag_any (cap := cap) hn1 (Nat.le_refl _) hC)
    clear htab hr hs hC hbig hd hn
    go_enter Tryd.func6, Tryd.ntmps6
    go_wp2_with (go_at_call 7; refine hbg.out.mono ?_; rintro e w' ⟨rfl, rfl⟩)
    refine HDR.out.mono ?_
    clear HDR hbg
    rintro e w1 ⟨a, b, c, hok, rfl, hb1⟩
    have HB1 := Lib.hid hb1
    have hs1 := hb1.size
    have HOK := Lib.hid hok
    obtain ⟨S, hS⟩ : ∃ S : ByteArray, S = ⟨(ftext a b c).toArray⟩ := ⟨_, rfl⟩
    have hSL : S.data.toList = ftext a b c := by rw [hS]
    have hS12 : S.size = 12 := by rw [hS]; exact ftext_size hok
    have HSL := Lib.hid hSL
    have HF := Lib.hid (fun W (hW : Below w.heap.size w W) => by rw [hS]; exact implFmt_any a b c W (hT.out _ hW) : ∀ W, Below w.heap.size w W → Calls Tryd.prog 19 #[.agg #[.int .i64 a, .int .i64 b, .int .i64 c]] W fun e w' => e = .returned (.string S) ∧ Below W.heap.size W w')
    have HFS := Lib.hid (fun W => by rw [hS]; exact specFmt_any a b c W : ∀ W, Calls Tryd.prog 21 #[.agg #[.int .i64 a, .int .i64 b, .int .i64 c]] W fun e w' => e = .returned (.string S) ∧ Below W.heap.size W w')
    have HP := Lib.hid (fun W (hW : Below w.heap.size w W) => by have h := ptag_any S (by omega) W (hT.out _ hW) (HR.out.on gRng hW) (HS.out.on gSyn hW); rw [hSL, ptans_of hok] at h; exact h : ∀ W, Below w.heap.size w W → Calls Tryd.prog 20 #[.string S] W fun e w' => e = .returned (.tuple #[.agg #[.int .i64 a, .int .i64 b, .int .i64 c], .bool true]) ∧ Below W.heap.size W w')
    have HO := Lib.hid (fun W => by have h := implOk_any a b c W; rw [hok] at h; exact h : ∀ W, Calls Tryd.prog 22 #[.agg #[.int .i64 a, .int .i64 b, .int .i64 c]] W fun e w' => e = .returned (.bool true) ∧ Below W.heap.size W w')
    have hck : tchk a b c = Int.tmod (tnum a b c) 7 := by
      obtain ⟨⟨h0, h1⟩, ⟨h2, h3⟩, h4, h5⟩ := tokB_iff.1 hok
      unfold tchk tnum; rw [if_pos hok, if_pos hok, Int.tmod_eq_emod_of_nonneg (by omega)]
    obtain ⟨hn0, hn9⟩ := tnum_bd hok
    have HK := Lib.hid (fun W => by have h := implChk_any a b c W; rw [hck] at h; exact h : ∀ W, Calls Tryd.prog 23 #[.agg #[.int .i64 a, .int .i64 b, .int .i64 c]] W fun e w' => e = .returned (.int .i64 (Int.tmod (tnum a b c) 7)) ∧ Below W.heap.size W w')
    have HN := Lib.hid (fun W => implNum_any a b c W)
    have HM := Lib.hid (fun W => specNum_any a b c W)
    obtain ⟨N, hN⟩ : ∃ N, N = tnum a b c := ⟨_, rfl⟩
    rw [← hN] at HK HN HM hn0 hn9
    clear hck hSL hS hok hb1 hN
    have HW1 := Lib.hid (fun v => HB1.out.alloc hs1 v)
    go_wp2_with fail
    refine (HF.out _ (HW1.out _)).mono ?_
    rintro e w2 ⟨rfl, hb2⟩
    have hxa : w2.heap[w1.heap.size]? = some (.cells #[.int .i64 a, .int .i64 b, .int .i64 c] 36 (0, 0)) := (hb2.block _ (by simp)).trans (heap_new _ _ _ rfl)
    have hs2 : w1.heap.size + 1 ≤ w2.heap.size := by have := hb2.size; simpa using this
    have hb2' : Below w.heap.size w w2 := (HW1.out _).trans (hb2.mono (by simp; omega))
    have HB2 := Lib.hid hb2'
    have HXA := Lib.hid hxa
    have hw2 := hb2'.size
    clear hb2 hxa hb2'
    go_wp2_with fail
    refine (HP.out _ HB2.out).mono ?_
    rintro e w3 ⟨rfl, hb3⟩
    obtain ⟨wo, hwo⟩ : ∃ wo, wo = w3.alloc (.cells #[.int .i64 a, .int .i64 b, .int .i64 c] 36) := ⟨_, rfl⟩
    have hs3 := hb3.size
    have hbo : Below w3.heap.size w3 wo := by rw [hwo]; exact (Below.refl _ _).alloc (Nat.le_refl _) _
    have hx5 : wo.heap[w3.heap.size]? = some (.cells #[.int .i64 a, .int .i64 b, .int .i64 c] 36 (0, 0)) := by rw [hwo]; exact heap_new _ _ _ rfl
    have hx3 := (hbo.block w1.heap.size (by omega)).trans ((hb3.block w1.heap.size (by omega)).trans HXA.out)
    have hB3 : Below w.heap.size w wo := HB2.out.trans ((hb3.mono hw2).trans (hbo.mono (by omega)))
    obtain ⟨a0, a1, a2⟩ := cells3b hx3
    obtain ⟨e0, e1, e2⟩ := cells3b hx5
    have l0 := Later.cell a0
    have l1 := Later.cell a1
    have l2 := Later.cell a2
    have m0 := Later.cell e0
    have m1 := Later.cell e1
    have m2 := Later.cell e2
    have HBO := Lib.hid hB3
    have hwo3 := hB3.size
    have HWO := Lib.hid hwo
    have HX3 := Lib.hid hx3
    have c1 := Lib.hid (fun (p : Later wo) => Calls.later_of (p := p) (HFS.out p.wd))
    have c2 := Lib.hid (fun (p : Later wo) => Calls.later_of (p := p) (HO.out p.wd))
    have c3 := Lib.hid (fun (p : Later wo) => Calls.later_of (p := p) (HK.out p.wd))
    have c4 := Lib.hid (fun (p : Later wo) => Calls.later_of (p := p) (HM.out p.wd))
    have c5 := Lib.hid (fun (p : Later wo) => Calls.later_of (p := p) (HN.out p.wd))
    have hS12i : ((S.size : Int) == 12) = true := by rw [hS12]; rfl
    have hcT := cellsTagD
    have h77 : (N % 7 != N % 7) = false := by simp
    have h78 : (N.tmod 7 != N % 7) = false := by rw [Int.tmod_eq_emod_of_nonneg hn0]; simp
    clear hb3 hbo hx5 hx3 hB3 a0 a1 a2 e0 e1 e2 hwo
    go_upto_region 6 with fail
    rw [← HWO.out]
    refine wp_region_later follows_mixed (by kernel_rfl) ?_
    repeat (first
      | go_big_quiet_step (first | (go_at_call 21; exact c1.out _) | (go_at_call 22; exact c2.out _) | (go_at_call 23; exact c3.out _) | (go_at_call 24; exact c4.out _) | (go_at_call 25; exact c5.out _))
      | quiet_step (first | (go_at_call 21; exact c1.out _) | (go_at_call 22; exact c2.out _) | (go_at_call 23; exact c3.out _) | (go_at_call 24; exact c4.out _) | (go_at_call 25; exact c5.out _)))
    refine wpQuiet_nil ?_
    intro wq hw'
    have hq : Below wo.heap.size wo wq := by obtain ⟨p, e⟩ := hw'; rw [e]; exact p.h
    have HBQ := Lib.hid (HBO.out.trans (hq.mono hwo3))
    have hwq := HBQ.out.size
    clear hw' hq c1 c2 c3 c4 c5 HK HM HN HO HFS HX3 HWO HXA l0 l1 l2 m0 m1 m2 HBO hs3 hs2 HW1 HB1 hs1 HB2 hw2
    go_wp2_with fail
    go_loopw [7] (fun iv wr => ∃ k : Nat, k ≤ 256 ∧ iv = .int .i64 (k : Int) ∧ Below w.heap.size w wr) (fun iv _ => 256 - (intOf iv).toNat)
    case atStart => exact ⟨0, by omega, rfl, HBQ.out⟩
    case round =>
      obtain ⟨k, hk, rfl, hbr⟩ := hrel
      have HBR := Lib.hid hbr
      have hwr := hbr.size
      clear hbr
      by_cases hlt : k < 256
      · have hk0 : (0 : Int) ≤ (k : Int) := by omega
        have hkl : (k : Int) < 256 := by omega
        have hwk : IntKind.u8.wrap (k : Int) = (k : Int) := by unfold IntKind.wrap; simp [IntKind.bits, IntKind.signed]; omega
        have hd8 : decide (12 < (11 : Int)) = false := rfl
        obtain ⟨T, hT1⟩ : ∃ T : ByteArray, T = ⟨#[UInt8.ofNat k]⟩ := ⟨_, rfl⟩
        have hcv := one_conv wr k hlt
        rw [← hT1] at hcv
        have hT8 : T.size = 1 := by rw [hT1]; rfl
        obtain ⟨O, hO⟩ : ∃ O : ByteArray, O = S.extract 0 11 ++ T := ⟨_, rfl⟩
        obtain ⟨hOz, hOs, hO10⟩ := other_text S T O hS12 hT8 hO
        obtain ⟨x, y, z, ht⟩ := ptans_other HOK.out HSL.out hOz hO10
        obtain ⟨q, hq⟩ : ∃ q, q = decide (O.data.toList = S.data.toList) := ⟨_, rfl⟩
        have hOD : decide (O = S) = q := by rw [hq]; exact str_eq2 O S
        have hOS : (O.toList == S.toList) = q := by rw [hq]; exact str_eq O S
        have hqq := not_self q
        rw [← hq] at ht
        have HPO := Lib.hid (fun W (hW : Below w.heap.size w W) => by have h := ptag_any O hOs W (hT.out _ hW) (HR.out.on gRng hW) (HS.out.on gSyn hW); rw [ht] at h; exact h : ∀ W, Below w.heap.size w W → Calls Tryd.prog 20 #[.string O] W fun e w' => e = .returned (.tuple #[.agg #[.int .i64 x, .int .i64 y, .int .i64 z], .bool q]) ∧ Below W.heap.size W w')
        have hOr := hO.symm
        have HBA := Lib.hid ((HBR.out.alloc hwr (.cells #[.int .u8 (k : Int)] 5)).drew)
        clear hO hOz hOs hT1 ht hq hO10 HP HF
        go_wp2_with fail
        go_region
        clear hOr hcv
        go_wp2_with fail
        refine (HPO.out _ HBA.out).mono ?_
        rintro e w5 ⟨rfl, hb5⟩
        have HB5 := Lib.hid (HBA.out.trans (hb5.mono (by simp; omega)))
        clear hb5 HPO HBA
        go_wp2_with fail
        go_roundw
        case rel => exact ⟨k + 1, by omega, by go_num, HB5.out.alloc (by have := HB5.out.size; omega) _⟩
        case measure => simp [intOf]; omega
      · obtain rfl : k = 256 := by omega
        have HDF := Lib.hid (drawFmt_any (cap := cap) hn1 hwr (Code.below HC.out HBR.out (Nat.le_refl _)))
        clear HF HP
        go_wp2_with fail
        refine HDF.out.mono ?_
        clear HDF
        rintro e w4 ⟨a2, b2, c2, rfl, hb4⟩
        have HB4 := Lib.hid (HBR.out.trans (hb4.mono hwr))
        have hw4 := hb4.size
        clear hb4
        have HDP := Lib.hid (drawPT_any (cap := cap) (B := w.heap.size) (w := w4.alloc (.cells #[.int .i64 a2, .int .i64 b2, .int .i64 c2] 36)) hn1 (by simp; omega) (Code.below HC.out (HB4.out.alloc (by omega) _) (Nat.le_refl _)))
        go_wp2_with fail
        refine HDP.out.mono ?_
        clear HDP
        rintro e w5 ⟨X, hX13, rfl, hb5⟩
        have hs5 := hb5.size
        simp at hs5
        have HX5 := Lib.hid (show w5.heap[w4.heap.size]? = some (.cells #[.int .i64 a2, .int .i64 b2, .int .i64 c2] 36 (0, 0)) from (hb5.block _ (by simp)).trans (heap_new _ _ _ rfl))
        have HB5 := Lib.hid ((HB4.out.alloc (by omega) (.cells #[.int .i64 a2, .int .i64 b2, .int .i64 c2] 36)).trans (hb5.mono (by simp; omega)))
        have hw5 : w.heap.size ≤ w5.heap.size := by omega
        clear hb5 HB4
        obtain ⟨S2, hS2⟩ : ∃ S2 : ByteArray, S2 = ⟨(ftext a2 b2 c2).toArray⟩ := ⟨_, rfl⟩
        obtain ⟨tk, htk⟩ : ∃ tk, tk = tokB a2 b2 c2 := ⟨_, rfl⟩
        have hE : S2.toList.isEmpty = !tk := by rw [ByteArray.toList_eq, hS2, htk]; exact ftext_empty a2 b2 c2
        have hE2 : (!S2.toList.isEmpty) = tk := by rw [hE]; simp
        have HF2 := Lib.hid (fun W (hW : Below w.heap.size w W) => by rw [hS2]; exact implFmt_any a2 b2 c2 W (hT.out _ hW) : ∀ W, Below w.heap.size w W → Calls Tryd.prog 19 #[.agg #[.int .i64 a2, .int .i64 b2, .int .i64 c2]] W fun e w' => e = .returned (.string S2) ∧ Below W.heap.size W w')
        have HG2 := Lib.hid (fun W => by rw [hS2]; exact specFmt_any a2 b2 c2 W : ∀ W, Calls Tryd.prog 21 #[.agg #[.int .i64 a2, .int .i64 b2, .int .i64 c2]] W fun e w' => e = .returned (.string S2) ∧ Below W.heap.size W w')
        have HO2 := Lib.hid (fun W => by have h := implOk_any a2 b2 c2 W; rw [← htk] at h; exact h : ∀ W, Calls Tryd.prog 22 #[.agg #[.int .i64 a2, .int .i64 b2, .int .i64 c2]] W fun e w' => e = .returned (.bool tk) ∧ Below W.heap.size W w')
        clear hS2 htk
        rcases ptans_says X.data.toList with ⟨x, y, z, hv, hxt⟩ | hv
        · have HF3 := Lib.hid (fun W (hW : Below w.heap.size w W) => by have h := implFmt_any x y z W (hT.out _ hW); rw [hxt] at h; exact h : ∀ W, Below w.heap.size w W → Calls Tryd.prog 19 #[.agg #[.int .i64 x, .int .i64 y, .int .i64 z]] W fun e w' => e = .returned (.string X) ∧ Below W.heap.size W w')
          clear hxt
          have HPI := Lib.hid (fun W (hW : Below w.heap.size w W) => by have h := ptag_any X (by omega) W (hT.out _ hW) (HR.out.on gRng hW) (HS.out.on gSyn hW); rw [hv] at h; exact h : ∀ W, Below w.heap.size w W → Calls Tryd.prog 20 #[.string X] W fun e w' => e = .returned (.tuple #[.agg #[.int .i64 x, .int .i64 y, .int .i64 z], .bool true]) ∧ Below W.heap.size W w')
          have HPS := Lib.hid (fun W => by have h := sptag_any X (by omega) W; rw [hv] at h; exact h : ∀ W, Calls Tryd.prog 28 #[.string X] W fun e w' => e = .returned (.tuple #[.agg #[.int .i64 x, .int .i64 y, .int .i64 z], .bool true]) ∧ Below W.heap.size W w')
          clear hv
          go_wp2_with fail
          refine (HPI.out _ HB5.out).mono ?_
          rintro e w6 ⟨rfl, hb6⟩
          have HB6 := Lib.hid (HB5.out.trans (hb6.mono hw5))
          have hw6 := hb6.size
          have HX6 := Lib.hid (show w6.heap[w4.heap.size]? = some (.cells #[.int .i64 a2, .int .i64 b2, .int .i64 c2] 36 (0, 0)) from (hb6.block _ (by omega)).trans HX5.out)
          clear hb6 HPI HX5
          go_wp2_with fail
          refine (HPS.out _).mono ?_
          rintro e w7 ⟨rfl, hb7⟩
          obtain ⟨wo, hwo⟩ : ∃ wo, wo = w7.alloc (.cells #[.int .i64 x, .int .i64 y, .int .i64 z] 36) := ⟨_, rfl⟩
          have hs7 := hb7.size
          simp at hs7
          have hbo : Below w7.heap.size w7 wo := by rw [hwo]; exact (Below.refl _ _).alloc (Nat.le_refl _) _
          have hx15 : wo.heap[w7.heap.size]? = some (.cells #[.int .i64 x, .int .i64 y, .int .i64 z] 36 (0, 0)) := by rw [hwo]; exact heap_new _ _ _ rfl
          have hx13 : wo.heap[w6.heap.size]? = some (.cells #[.int .i64 x, .int .i64 y, .int .i64 z] 36 (0, 0)) := (hbo.block _ (by omega)).trans ((hb7.block _ (by simp)).trans (heap_new _ _ _ rfl))
          have hx11 : wo.heap[w4.heap.size]? = some (.cells #[.int .i64 a2, .int .i64 b2, .int .i64 c2] 36 (0, 0)) := (hbo.block _ (by omega)).trans ((hb7.block _ (by simp; omega)).trans ((heap_old _ _ _ (by omega)).trans HX6.out))
          have hBO : Below w.heap.size w wo := (HB6.out.alloc (by omega) _).trans ((hb7.mono (by simp; omega)).trans (hbo.mono (by omega)))
          obtain ⟨a0, a1, a2'⟩ := cells3b hx11
          obtain ⟨e0, e1, e2⟩ := cells3b hx13
          obtain ⟨g0, g1, g2⟩ := cells3b hx15
          have l0 := Later.cell a0
          have l1 := Later.cell a1
          have l2 := Later.cell a2'
          have m0 := Later.cell e0
          have m1 := Later.cell e1
          have m2 := Later.cell e2
          have n0 := Later.cell g0
          have n1 := Later.cell g1
          have n2 := Later.cell g2
          have HBO := Lib.hid hBO
          have hwo7 := hBO.size
          have HWO := Lib.hid hwo
          have c1 := Lib.hid (fun (p : Later wo) => Calls.later_of (p := p) (HF2.out p.wd (HBO.out.trans (p.h.mono hwo7))))
          have c2' := Lib.hid (fun (p : Later wo) => Calls.later_of (p := p) (HG2.out p.wd))
          have c3 := Lib.hid (fun (p : Later wo) => Calls.later_of (p := p) (HO2.out p.wd))
          have c4 := Lib.hid (fun (p : Later wo) => Calls.later_of (p := p) (HF3.out p.wd (HBO.out.trans (p.h.mono hwo7))))
          have hcT := cellsTagD
          clear hb7 hbo hx15 hx13 hx11 hBO a0 a1 a2' e0 e1 e2 g0 g1 g2 hwo HPS HX6
          go_upto_region 19 with fail
          rw [← HWO.out]
          refine wp_region_later follows_mixed (by kernel_rfl) ?_
          repeat (first
            | go_big_quiet_step (first | (go_at_call 19; first | with_reducible exact c1.out _ | with_reducible exact c4.out _) | (go_at_call 21; exact c2'.out _) | (go_at_call 22; exact c3.out _))
            | quiet_step (first | (go_at_call 19; first | with_reducible exact c1.out _ | with_reducible exact c4.out _) | (go_at_call 21; exact c2'.out _) | (go_at_call 22; exact c3.out _)))
          refine wpQuiet_nil ?_
          intro wq hw'
          have hq : Below wo.heap.size wo wq := by obtain ⟨p, e⟩ := hw'; rw [e]; exact p.h
          have HBQ := Lib.hid (HBO.out.trans (hq.mono hwo7))
          clear hw' hq c1 c2' c3 c4 l0 l1 l2 m0 m1 m2 n0 n1 n2 HWO HBO
          go_wp2_with fail
          go_ret
          exact ⟨rfl, HBQ.out⟩
        · have HPI := Lib.hid (fun W (hW : Below w.heap.size w W) => by have h := ptag_any X (by omega) W (hT.out _ hW) (HR.out.on gRng hW) (HS.out.on gSyn hW); rw [hv] at h; exact h : ∀ W, Below w.heap.size w W → Calls Tryd.prog 20 #[.string X] W fun e w' => e = .returned (.tuple #[.agg #[.int .i64 0, .int .i64 0, .int .i64 0], .bool false]) ∧ Below W.heap.size W w')
          have HPS := Lib.hid (fun W => by have h := sptag_any X (by omega) W; rw [hv] at h; exact h : ∀ W, Calls Tryd.prog 28 #[.string X] W fun e w' => e = .returned (.tuple #[.agg #[.int .i64 0, .int .i64 0, .int .i64 0], .bool false]) ∧ Below W.heap.size W w')
          clear hv
          go_wp2_with fail
          refine (HPI.out _ HB5.out).mono ?_
          rintro e w6 ⟨rfl, hb6⟩
          have HB6 := Lib.hid (HB5.out.trans (hb6.mono hw5))
          have hw6 := hb6.size
          have HX6 := Lib.hid (show w6.heap[w4.heap.size]? = some (.cells #[.int .i64 a2, .int .i64 b2, .int .i64 c2] 36 (0, 0)) from (hb6.block _ (by omega)).trans HX5.out)
          clear hb6 HPI HX5
          go_wp2_with fail
          refine (HPS.out _).mono ?_
          rintro e w7 ⟨rfl, hb7⟩
          obtain ⟨wo, hwo⟩ : ∃ wo, wo = w7.alloc (.cells #[.int .i64 0, .int .i64 0, .int .i64 0] 36) := ⟨_, rfl⟩
          have hs7 := hb7.size
          simp at hs7
          have hbo : Below w7.heap.size w7 wo := by rw [hwo]; exact (Below.refl _ _).alloc (Nat.le_refl _) _
          have hx15 : wo.heap[w7.heap.size]? = some (.cells #[.int .i64 0, .int .i64 0, .int .i64 0] 36 (0, 0)) := by rw [hwo]; exact heap_new _ _ _ rfl
          have hx13 : wo.heap[w6.heap.size]? = some (.cells #[.int .i64 0, .int .i64 0, .int .i64 0] 36 (0, 0)) := (hbo.block _ (by omega)).trans ((hb7.block _ (by simp)).trans (heap_new _ _ _ rfl))
          have hx11 : wo.heap[w4.heap.size]? = some (.cells #[.int .i64 a2, .int .i64 b2, .int .i64 c2] 36 (0, 0)) := (hbo.block _ (by omega)).trans ((hb7.block _ (by simp; omega)).trans ((heap_old _ _ _ (by omega)).trans HX6.out))
          have hBO : Below w.heap.size w wo := (HB6.out.alloc (by omega) _).trans ((hb7.mono (by simp; omega)).trans (hbo.mono (by omega)))
          obtain ⟨a0, a1, a2'⟩ := cells3b hx11
          obtain ⟨e0, e1, e2⟩ := cells3b hx13
          obtain ⟨g0, g1, g2⟩ := cells3b hx15
          have l0 := Later.cell a0
          have l1 := Later.cell a1
          have l2 := Later.cell a2'
          have m0 := Later.cell e0
          have m1 := Later.cell e1
          have m2 := Later.cell e2
          have n0 := Later.cell g0
          have n1 := Later.cell g1
          have n2 := Later.cell g2
          have HBO := Lib.hid hBO
          have hwo7 := hBO.size
          have HWO := Lib.hid hwo
          have c1 := Lib.hid (fun (p : Later wo) => Calls.later_of (p := p) (HF2.out p.wd (HBO.out.trans (p.h.mono hwo7))))
          have c2' := Lib.hid (fun (p : Later wo) => Calls.later_of (p := p) (HG2.out p.wd))
          have c3 := Lib.hid (fun (p : Later wo) => Calls.later_of (p := p) (HO2.out p.wd))
          have c4 := c1
          have hcT := cellsTagD
          clear hb7 hbo hx15 hx13 hx11 hBO a0 a1 a2' e0 e1 e2 g0 g1 g2 hwo HPS HX6
          go_upto_region 19 with fail
          rw [← HWO.out]
          refine wp_region_later follows_mixed (by kernel_rfl) ?_
          repeat (first
            | go_big_quiet_step (first | (go_at_call 19; first | with_reducible exact c1.out _ | with_reducible exact c4.out _) | (go_at_call 21; exact c2'.out _) | (go_at_call 22; exact c3.out _))
            | quiet_step (first | (go_at_call 19; first | with_reducible exact c1.out _ | with_reducible exact c4.out _) | (go_at_call 21; exact c2'.out _) | (go_at_call 22; exact c3.out _)))
          refine wpQuiet_nil ?_
          intro wq hw'
          have hq : Below wo.heap.size wo wq := by obtain ⟨p, e⟩ := hw'; rw [e]; exact p.h
          have HBQ := Lib.hid (HBO.out.trans (hq.mono hwo7))
          clear hw' hq c1 c2' c3 c4 l0 l1 l2 m0 m1 m2 n0 n1 n2 HWO HBO
          go_wp2_with fail
          go_ret
          exact ⟨rfl, HBQ.out⟩

/-! The row's step. -/
theorem own : ownKnob Tryd.prog.godebug = none := by kernel_rfl
theorem laidOut : laidOutB Tryd.prog = true := by kernel_rfl
theorem door_met (os : Os) (args : Array Value) : laidMetH Tryd.prog Rows.fnTagsRow.laid ((World.doorLaid Tryd.prog 400 os).forCall (fun _ _ => 0) ⟨#[], args, []⟩).memory :=
  laidMetH_of_parts3 (fuel := 8) (laidMet_of_run' 8 (by kernel_rfl) (by kernel_rfl)) (by kernel_rfl) (by kernel_rfl)
set_option maxRecDepth 100000 in
theorem lifted (os : Os) (started : os.Started) (H : Type) (enc : TypeId × Value → H) :
    ReturnsInHanded {} Tryd.checked os 6 .any (fun w args => (Rows.fnTagsSpec.pre enc Tryd.prog Tryd.f6 [] false w args ∧ laidMetH Tryd.prog Rows.fnTagsRow.laid w) ∧ sizedMet enc Tryd.prog Tryd.f6 (OpenSpec.ofChange Rows.fnTagsSpec) false w args) (Rows.fnTagsSpec.post enc Tryd.prog Tryd.f6 false true false false) := by
  refine returnsInHanded_of_change_and (C := Tryd.checked) (X := fun w _ => laidMetH Tryd.prog Rows.fnTagsRow.laid w) (fun _ _ _ hh h => h.of_heap hh) own started (by kernel_rfl) Tryd.func6
    (ChangeSpec.witness_shaped (enc := enc) (C := Tryd.checked) (os := os) (X := fun w _ => laidMetH Tryd.prog Rows.fnTagsRow.laid w) false (World.doorLaid Tryd.prog 400 os) #[.slice none 0 0] 8 rfl (World.shaped_of_RefB (by kernel_rfl) (by kernel_rfl)) (by kernel_rfl) (by kernel_rfl) (by kernel_rfl) (door_met os _)) ?_
  intro W base args ds gs before hval0 hW hcnd hsz hLH _
  have hval : ∀ (j : Nat) t v, Tryd.f6.params[j]? = some t → args[j]? = some v → Value.okWide Tryd.prog W .any base t v := hval0
  have hW' := hW
  obtain ⟨p, q, hA0, hV, rfl, hfz, hnd⟩ := hW
  have hA : DataW.TrodAll enc Tryd.prog W 0 (fun _ => true) true Tryd.f6.params.toList args.toList ds p := hA0
  rw [Tryd.params6] at hA hval
  obtain ⟨v0, vs0, d0, ds0, p0, q0, hargs, rfl, rfl, h0, r0⟩ := trodAll_cons hA
  obtain ⟨rfl, rfl, rfl⟩ := trodAll_nil r0
  obtain rfl : args = #[v0] := by cases args; simp_all
  obtain ⟨rfl, rfl⟩ := trodVars_none hV
  have k0 := h0
  have lt0 : ∀ x ∈ p0, x.block < W.heap.size := by obtain ⟨m, hm⟩ := k0; exact DataW.trod_lt m _ _ _ hm
  obtain ⟨sp0, ln0, cp0, rfl⟩ := okWide_slice Tryd.underlying22 (hval 0 22 v0 rfl rfl)
  obtain ⟨gc0, oc0, w0, cd0⟩ := code_open h0
  clear hA0 hval0
  have hL : laidMet Tryd.prog Rows.fnTagsRow.laid W := by rw [MakeChecks.laidMetH_plain _ _ _ (by kernel_rfl)] at hLH; exact hLH
  refine (walk sp0 ln0 cp0 gc0 oc0 W w0 cd0 (tab_of_laid (laidMet.tail (laidMet.tail hL))) (rng_of_laid (laidMet.tail (laidMet.tail (laidMet.tail hL)))) (syn_of_laid (laidMet.tail (laidMet.tail (laidMet.tail (laidMet.tail hL)))))).mono fun e W' ⟨he, bel⟩ => ?_
  subst he
  exact ⟨_, rfl, _, _, _, [], _, [], hW', trodAll_mk1 (shut_bool Tryd.underlying4 _), (trodAll_cons_mk (Below.trod laidOut (by kernel_rfl) (of_decide_eq_true (by kernel_rfl)) k0 bel lt0) trodAll_mk0), rfl, bel.frame _, fun h => by cases h⟩

theorem over : Rows.FnTagsSaid :=
  OpenClaim.holds_of_wide 6 Tryd.f6 rfl rfl rfl rfl rfl rfl rfl ⟨rfl, rfl, rfl, rfl, rfl⟩ rfl rfl rfl rfl rfl (by kernel_rfl) Tryd.func6 (by kernel_rfl)
    (of_decide_eq_true (by kernel_rfl)) (by unfold Func.isWrapper; first | (rw [if_pos (by decide +kernel)]; kernel_rfl) | (rw [if_neg (by decide +kernel)]; exact ⟨rfl, rfl⟩))
    (fun os started H enc _ => lifted os started H enc)

/-- The statement. -/
theorem proved : Rows.FnTagsCardSaid :=
  Claim7.holds_tied_plain_at .later [] [.data, .data, .data, .sentinel, .sentinel] true (true, "e4034d3ed36401187d202ddd2bf33678d1d91e93af4274dbb262d6920d054c87") true
    over (fun _ h => by cases h) (by kernel_rfl) (fun _ h => by cases h) fnTags_row_tie rfl ⟨rfl, rfl⟩ (by kernel_rfl) rfl
    (fun f fn hf hfn => by
      obtain rfl : f = 6 := Option.some.inj ((show Tryd.prog.funcNamed "loop.example/g03319/laws.FnTags" = some 6 by kernel_rfl).symm.trans hf) |>.symm
      obtain rfl : fn = Tryd.f6 := (Option.some.inj (Tryd.func6.symm.trans hfn)).symm
      exact ⟨by kernel_rfl, fun j t ht => by
        rw [Tryd.params6] at ht
        have hm : t ∈ [22] := by simpa using Array.mem_of_getElem? ht
        have hall : ([22].all fun u => !Tryd.prog.wantsStandIn u) = true := by kernel_rfl
        exact (show Tryd.prog.wantsStandIn t = false by simpa using List.all_eq_true.1 hall t hm)⟩)
    (by kernel_rfl)
#print axioms proved
end Go.Proofs.YtopkdkehkdhmgabDoor.fnTags
