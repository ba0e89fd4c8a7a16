/- What the draw of a line hands out. -/
import Derived.Test.YtopkdkehkdhmgabDoorDrawText
import Derived.Test.YtopkdkehkdhmgabDoorBlur
import Derived.IntWalk
namespace Go.Proofs.YtopkdkehkdhmgabDoor
open Go.RowKit
set_option linter.unusedVariables false

theorem below_of {B : Nat} {w w1 w2 : World} {g : Nat} (h : Below B w w1) (hB : B ≤ w1.heap.size) (hg : w1.grownBy w2 (some g)) (hBg : B ≤ g) : Below B w w2 :=
  h.trans (⟨hg.os, hg.tape, hg.output, hg.size, fun k hk => hg.block k (by omega) (by intro e; injection e with e; omega)⟩ : Below B w1 w2)
theorem conv1 (W : World) (v : Int) (h0 : 0 ≤ v) (h1 : v < 256) : ∃ s : ByteArray, s.size = 1 ∧ (convert 22 9 (.slice (some ⟨W.heap.size, 0, none⟩) 1 1)).run Tryd.prog (W.alloc (.cells #[.int .u8 v] 5)) = .ok (.string s) (W.alloc (.cells #[.int .u8 v] 5)) := by
  refine ⟨⟨#[UInt8.ofNat v.toNat]⟩, rfl, ?_⟩
  have hW : (W.alloc (.cells #[.int .u8 v] 5)).heap[W.heap.size]? = some (.cells #[.int .u8 v] 5 (0, 0)) := heap_new _ _ _ rfl
  have hc : (W.alloc (.cells #[.int .u8 v] 5)).cell? ⟨W.heap.size, 0, none⟩ = some (.int .u8 v) := by simp only [World.cell?, hW]; rfl
  exact run_convert_bytes_back (P := Tryd.prog) _ 22 9 5 ⟨W.heap.size, 0, none⟩ 1 [UInt8.ofNat v.toNat] Tryd.underlying22 Tryd.underlying5 Tryd.underlying9 (fun j hj => by
    obtain rfl : j = 0 := by simp at hj; omega
    have h8 : (UInt8.ofNat v.toNat).toNat = v.toNat := by rw [UInt8.toNat_ofNat']; omega
    show World.cell? _ ⟨W.heap.size, 0, none⟩ = some (Value.int .u8 (((UInt8.ofNat v.toNat).toNat : Nat) : Int))
    rw [h8, Int.toNat_of_nonneg h0]
    exact hc)

set_option maxRecDepth 100000 in
set_option maxHeartbeats 4000000 in
theorem drawSplit_any {B n : Nat} {p : Option Addr} {cap gc oc : Nat} {w : World} (hn : n ≤ 1048576) (hB : B ≤ w.heap.size) (hC : Code B n w p gc oc) :
    Calls Tryd.prog 14 #[.slice p n cap] w fun e w' => ∃ s : ByteArray, s.size ≤ 1000 ∧ e = .returned (.string s) ∧ Below w.heap.size w w' := by
  have H := Lib.hid hC
  clear hC
  go_enter Tryd.func14, Tryd.ntmps14
  go_wp2_with fail
  refine (new_any (cap := cap) hn hB H.out).mono ?_
  rintro e w1 ⟨g, rfl, hc1, hb1, hg1⟩
  have HB1 := Lib.hid hb1
  have HC1 := Lib.hid hc1
  have hs1 := hb1.size
  clear hb1 hc1
  go_wp2_with fail
  refine (below_at hn HC1.out 9 _ rfl (by omega) (by omega)).mono ?_
  rintro e w2 ⟨x, hx, rfl, hc2, hg2⟩
  have HB2 := Lib.hid (below_of HB1.out hs1 hg2 hg1)
  have HC2 := Lib.hid hc2
  have hs2 := HB2.out.size
  clear hg2 hc2 HB1 HC1
  go_wp2_with fail
  refine (once_at hn HC2.out 15 _ rfl (by omega) (by omega)).mono ?_
  rintro e w3 ⟨b, rfl, hc3, hg3⟩
  have HB3 := Lib.hid (below_of HB2.out hs2 hg3 hg1)
  have HC3 := Lib.hid hc3
  have hs3 := HB3.out.size
  clear hg3 hc3 HB2 HC2
  cases b with
  | true =>
    go_wp2_with fail
    refine (below_at hn HC3.out 2 _ rfl (by omega) (by omega)).mono ?_
    rintro e w4 ⟨x2, hx2, rfl, hc4, hg4⟩
    have HBN := Lib.hid (below_of HB3.out hs3 hg4 hg1)
    have HCN := Lib.hid hc4
    clear hg4 hc4 HB3 HC3
    obtain ⟨N, hN⟩ : ∃ N, N = 24 + x2 := ⟨_, rfl⟩
    have hN25 : N ≤ 25 := by omega
    have hwr : IntKind.i64.wrap (24 + (x2 : Int)) = (N : Int) := by rw [IntWalk.i64_in _ (by omega)]; omega
    clear hx hs2
    have HNS := Lib.hid (Below.refl w.heap.size w)
    go_wp2_with fail
    go_loopw [5, 6] (fun sv iv wr => ∃ (k : Nat) (S : ByteArray), k ≤ N ∧ iv = .int .i64 (k : Int) ∧ S.size ≤ k * 9 ∧ .string S = sv ∧ Cu B n p cap gc oc wr g ∧ Below w.heap.size w wr) (fun _ iv _ => N - (intOf iv).toNat)
    case atStart => exact ⟨0, ByteArray.empty, by omega, rfl, by simp, rfl, HCN.out, HBN.out⟩
    case round =>
      obtain ⟨k, S, hk, rfl, hS, rfl, hcr, hbr⟩ := hrel
      have HCR := Lib.hid hcr
      have HBR := Lib.hid hbr
      have hsr := hbr.size
      clear hcr hbr
      by_cases hkn : k < N
      · have hk0 : (0 : Int) ≤ (k : Int) := by omega
        have hkl : (k : Int) < (N : Int) := by omega
        by_cases hk0' : 0 < k
        · have hd0 : decide ((0 : Int) < (k : Int)) = true := decide_eq_true (by omega)
          have HBY := HBR
          have HCY := HCR
          have hsy := hsr
          clear HBR HCR
          go_wp2_with fail
          refine (below_at hn HCY.out 2 _ rfl (by omega) (by omega)).mono ?_
          rintro e w5 ⟨m1, hm1, rfl, hc5, hg5⟩
          have HB5 := Lib.hid (below_of HBY.out hsy hg5 hg1)
          have HC5 := Lib.hid hc5
          have hs5 := HB5.out.size
          clear hg5 hc5 HBY HCY
          go_wp2_with fail
          refine (below_at hn HC5.out 3 _ rfl (by omega) (by omega)).mono ?_
          rintro e w6 ⟨m2, hm2, rfl, hc6, hg6⟩
          have HB6 := Lib.hid (below_of HB5.out hs5 hg6 hg1)
          have HC6 := Lib.hid hc6
          have hs6 := HB6.out.size
          clear hg6 hc6 HB5 HC5
          have hmm : m1 * m2 ≤ 2 := by have h1 : m1 ≤ 1 := by omega
                                       have h2 : m2 ≤ 2 := by omega
                                       calc m1 * m2 ≤ 1 * 2 := Nat.mul_le_mul h1 h2
                                         _ = 2 := rfl
          obtain ⟨mm, hmmd⟩ : ∃ mm, mm = m1 * m2 := ⟨_, rfl⟩
          have hw1 : IntKind.i64.wrap ((m1 : Int) * (m2 : Int)) = (mm : Int) := by rw [IntWalk.i64_in _ (by rw [← Int.natCast_mul]; omega), hmmd, Int.natCast_mul]
          have hw2 : IntKind.i64.wrap (1 + (mm : Int)) = 1 + (mm : Int) := IntWalk.i64_in _ (by omega)
          have hmm2 : mm ≤ 2 := by omega
          clear hmm hmmd
          go_wp2_with fail
          refine (long_any (1 + mm) (by omega) 32 _ rfl _ (by omega) _).mono ?_
          rintro e w7 ⟨S0, hS0, rfl, hb7⟩
          have HCX := Lib.hid (HC6.out.below hb7)
          have HBX := Lib.hid (HB6.out.trans (hb7.mono hs6))
          clear hb7 HC6 HB6 hw1 hw2
          go_wp2_with fail
          go_loopw [5, 7] (fun sv jv wi => ∃ (j : Nat) (S2 : ByteArray), j ≤ 5 ∧ jv = .int .i64 (j : Int) ∧ S2.size ≤ k * 9 + 3 + j ∧ .string S2 = sv ∧ Cu B n p cap gc oc wi g ∧ Below w.heap.size w wi) (fun _ jv _ => 5 - (intOf jv).toNat)
          case atStart => exact ⟨0, S ++ S0, by omega, rfl, by rw [ByteArray.size_append]; omega, rfl, HCX.out, HBX.out⟩
          case round =>
            obtain ⟨j, S2, hj, rfl, hS2, rfl, hci, hbi⟩ := hrel
            rename World => wi
            have HBI := Lib.hid hbi
            have hsi := hbi.size
            clear HBX HCX hbi
            go_wp2_with fail
            refine (below_at hn hci 5 _ rfl (by omega) (by omega)).mono ?_
            clear hci
            rintro e w8 ⟨y, hy, rfl, hc8, hg8⟩
            have HB8 := Lib.hid (below_of HBI.out hsi hg8 hg1)
            have HC8 := Lib.hid hc8
            have hs8 := HB8.out.size
            clear hg8 hc8 HBI
            by_cases hjy : j ≤ y
            · have hj0 : (j : Int) ≤ (y : Int) := by omega
              go_wp2_with fail
              refine (below_at hn HC8.out 94 _ rfl (by omega) (by omega)).mono ?_
              rintro e w9 ⟨v, hv, rfl, hc9, hg9⟩
              have HB9 := Lib.hid (below_of HB8.out hs8 hg9 hg1)
              have HC9 := Lib.hid hc9
              have hs9 := HB9.out.size
              clear hg9 hc9 HB8 HC8
              have hwv : IntKind.i64.wrap (33 + (v : Int)) = 33 + (v : Int) := IntWalk.i64_in _ (by omega)
              have hw8 : IntKind.u8.wrap (33 + (v : Int)) = 33 + (v : Int) := by unfold IntKind.wrap; simp [IntKind.bits, IntKind.signed]; omega
              obtain ⟨T, hT1, hcv⟩ := conv1 w9 (33 + (v : Int)) (by omega) (by omega)
              go_wp2_with fail
              go_roundw
              case rel => exact ⟨j + 1, S2 ++ T, by omega, by go_num, by rw [ByteArray.size_append]; omega, rfl, HC9.out.below ((Below.refl _ _).alloc (Nat.le_refl _) _), HB9.out.alloc hs9 _⟩
              case measure => simp [intOf]; omega
            · have hj0 : ¬ (j : Int) ≤ (y : Int) := by omega
              go_wp2_with fail
              go_roundw
              case rel => exact ⟨k + 1, S2, by omega, by go_num, by omega, rfl, HC8.out, HB8.out⟩
              case measure => simp [intOf]; omega
        · obtain rfl : k = 0 := by omega
          go_wp2_with fail
          refine (once_at hn HCR.out 5 _ rfl (by omega) (by omega)).mono ?_
          rintro e wy ⟨b, rfl, hcy, hgy⟩
          have HBY := Lib.hid (below_of HBR.out hsr hgy hg1)
          have HCY := Lib.hid hcy
          have hsy := HBY.out.size
          clear hgy hcy HBR HCR
          cases b with
          | true =>
            go_wp2_with fail
            refine (below_at hn HCY.out 2 _ rfl (by omega) (by omega)).mono ?_
            rintro e w5 ⟨m1, hm1, rfl, hc5, hg5⟩
            have HB5 := Lib.hid (below_of HBY.out hsy hg5 hg1)
            have HC5 := Lib.hid hc5
            have hs5 := HB5.out.size
            clear hg5 hc5 HBY HCY
            go_wp2_with fail
            refine (below_at hn HC5.out 3 _ rfl (by omega) (by omega)).mono ?_
            rintro e w6 ⟨m2, hm2, rfl, hc6, hg6⟩
            have HB6 := Lib.hid (below_of HB5.out hs5 hg6 hg1)
            have HC6 := Lib.hid hc6
            have hs6 := HB6.out.size
            clear hg6 hc6 HB5 HC5
            have hmm : m1 * m2 ≤ 2 := by have h1 : m1 ≤ 1 := by omega
                                         have h2 : m2 ≤ 2 := by omega
                                         calc m1 * m2 ≤ 1 * 2 := Nat.mul_le_mul h1 h2
                                           _ = 2 := rfl
            obtain ⟨mm, hmmd⟩ : ∃ mm, mm = m1 * m2 := ⟨_, rfl⟩
            have hw1 : IntKind.i64.wrap ((m1 : Int) * (m2 : Int)) = (mm : Int) := by rw [IntWalk.i64_in _ (by rw [← Int.natCast_mul]; omega), hmmd, Int.natCast_mul]
            have hw2 : IntKind.i64.wrap (1 + (mm : Int)) = 1 + (mm : Int) := IntWalk.i64_in _ (by omega)
            have hmm2 : mm ≤ 2 := by omega
            clear hmm hmmd
            go_wp2_with fail
            refine (long_any (1 + mm) (by omega) 32 _ rfl _ (by omega) _).mono ?_
            rintro e w7 ⟨S0, hS0, rfl, hb7⟩
            have HCX := Lib.hid (HC6.out.below hb7)
            have HBX := Lib.hid (HB6.out.trans (hb7.mono hs6))
            clear hb7 HC6 HB6 hw1 hw2
            go_wp2_with fail
            go_loopw [5, 7] (fun sv jv wi => ∃ (j : Nat) (S2 : ByteArray), j ≤ 5 ∧ jv = .int .i64 (j : Int) ∧ S2.size ≤ 0 * 9 + 3 + j ∧ .string S2 = sv ∧ Cu B n p cap gc oc wi g ∧ Below w.heap.size w wi) (fun _ jv _ => 5 - (intOf jv).toNat)
            case atStart => exact ⟨0, S ++ S0, by omega, rfl, by rw [ByteArray.size_append]; omega, rfl, HCX.out, HBX.out⟩
            case round =>
              obtain ⟨j, S2, hj, rfl, hS2, rfl, hci, hbi⟩ := hrel
              rename World => wi
              have HBI := Lib.hid hbi
              have hsi := hbi.size
              clear HBX HCX hbi
              go_wp2_with fail
              refine (below_at hn hci 5 _ rfl (by omega) (by omega)).mono ?_
              clear hci
              rintro e w8 ⟨y, hy, rfl, hc8, hg8⟩
              have HB8 := Lib.hid (below_of HBI.out hsi hg8 hg1)
              have HC8 := Lib.hid hc8
              have hs8 := HB8.out.size
              clear hg8 hc8 HBI
              by_cases hjy : j ≤ y
              · have hj0 : (j : Int) ≤ (y : Int) := by omega
                go_wp2_with fail
                refine (below_at hn HC8.out 94 _ rfl (by omega) (by omega)).mono ?_
                rintro e w9 ⟨v, hv, rfl, hc9, hg9⟩
                have HB9 := Lib.hid (below_of HB8.out hs8 hg9 hg1)
                have HC9 := Lib.hid hc9
                have hs9 := HB9.out.size
                clear hg9 hc9 HB8 HC8
                have hwv : IntKind.i64.wrap (33 + (v : Int)) = 33 + (v : Int) := IntWalk.i64_in _ (by omega)
                have hw8 : IntKind.u8.wrap (33 + (v : Int)) = 33 + (v : Int) := by unfold IntKind.wrap; simp [IntKind.bits, IntKind.signed]; omega
                obtain ⟨T, hT1, hcv⟩ := conv1 w9 (33 + (v : Int)) (by omega) (by omega)
                go_wp2_with fail
                go_roundw
                case rel => exact ⟨j + 1, S2 ++ T, by omega, by go_num, by rw [ByteArray.size_append]; omega, rfl, HC9.out.below ((Below.refl _ _).alloc (Nat.le_refl _) _), HB9.out.alloc hs9 _⟩
                case measure => simp [intOf]; omega
              · have hj0 : ¬ (j : Int) ≤ (y : Int) := by omega
                go_wp2_with fail
                go_roundw
                case rel => exact ⟨0 + 1, S2, by omega, by go_num, by omega, rfl, HC8.out, HB8.out⟩
                case measure => simp [intOf]; omega
          | false =>
            have HCX := HCY
            have HBX := HBY
            clear HCY HBY
            go_wp2_with fail
            go_loopw [5, 7] (fun sv jv wi => ∃ (j : Nat) (S2 : ByteArray), j ≤ 5 ∧ jv = .int .i64 (j : Int) ∧ S2.size ≤ 0 * 9 + 3 + j ∧ .string S2 = sv ∧ Cu B n p cap gc oc wi g ∧ Below w.heap.size w wi) (fun _ jv _ => 5 - (intOf jv).toNat)
            case atStart => exact ⟨0, S, by omega, rfl, by omega, rfl, HCX.out, HBX.out⟩
            case round =>
              obtain ⟨j, S2, hj, rfl, hS2, rfl, hci, hbi⟩ := hrel
              rename World => wi
              have HBI := Lib.hid hbi
              have hsi := hbi.size
              clear HBX HCX hbi
              go_wp2_with fail
              refine (below_at hn hci 5 _ rfl (by omega) (by omega)).mono ?_
              clear hci
              rintro e w8 ⟨y, hy, rfl, hc8, hg8⟩
              have HB8 := Lib.hid (below_of HBI.out hsi hg8 hg1)
              have HC8 := Lib.hid hc8
              have hs8 := HB8.out.size
              clear hg8 hc8 HBI
              by_cases hjy : j ≤ y
              · have hj0 : (j : Int) ≤ (y : Int) := by omega
                go_wp2_with fail
                refine (below_at hn HC8.out 94 _ rfl (by omega) (by omega)).mono ?_
                rintro e w9 ⟨v, hv, rfl, hc9, hg9⟩
                have HB9 := Lib.hid (below_of HB8.out hs8 hg9 hg1)
                have HC9 := Lib.hid hc9
                have hs9 := HB9.out.size
                clear hg9 hc9 HB8 HC8
                have hwv : IntKind.i64.wrap (33 + (v : Int)) = 33 + (v : Int) := IntWalk.i64_in _ (by omega)
                have hw8 : IntKind.u8.wrap (33 + (v : Int)) = 33 + (v : Int) := by unfold IntKind.wrap; simp [IntKind.bits, IntKind.signed]; omega
                obtain ⟨T, hT1, hcv⟩ := conv1 w9 (33 + (v : Int)) (by omega) (by omega)
                go_wp2_with fail
                go_roundw
                case rel => exact ⟨j + 1, S2 ++ T, by omega, by go_num, by rw [ByteArray.size_append]; omega, rfl, HC9.out.below ((Below.refl _ _).alloc (Nat.le_refl _) _), HB9.out.alloc hs9 _⟩
                case measure => simp [intOf]; omega
              · have hj0 : ¬ (j : Int) ≤ (y : Int) := by omega
                go_wp2_with fail
                go_roundw
                case rel => exact ⟨0 + 1, S2, by omega, by go_num, by omega, rfl, HC8.out, HB8.out⟩
                case measure => simp [intOf]; omega
      · obtain rfl : k = N := by omega
        clear hkn
        go_wp2_with fail
        refine (below_at hn HCR.out 12 _ rfl (by omega) (by omega)).mono ?_
        rintro e w5 ⟨x5, hx5, rfl, hc5, hg5⟩
        have HB5 := Lib.hid (below_of HBR.out hsr hg5 hg1)
        have HC5 := Lib.hid hc5
        have hs5 := HB5.out.size
        clear hg5 hc5 HBR HCR
        by_cases h0 : x5 = 0
        · subst h0
          have hp2 : Calls Tryd.prog 39 #[.pointer (some ⟨g, 0, none⟩), .slice (some ⟨w5.heap.size, 0, none⟩) 6 6] (w5.alloc (.cells #[.string ⟨#[32]⟩, .string ⟨#[32, 32]⟩, .string ⟨#[9]⟩, .string ⟨#[10]⟩, .string ⟨#[127]⟩, .string ⟨#[233]⟩] 9)) _ := pickStrNew hn HC5.out [⟨#[32]⟩, ⟨#[32, 32]⟩, ⟨#[9]⟩, ⟨#[10]⟩, ⟨#[127]⟩, ⟨#[233]⟩] 6 6 rfl (by decide) (by decide) #[.string ⟨#[32]⟩, .string ⟨#[32, 32]⟩, .string ⟨#[9]⟩, .string ⟨#[10]⟩, .string ⟨#[127]⟩, .string ⟨#[233]⟩] rfl 9
          have HP2 := Lib.hid hp2
          have HX9 : Hid (∀ x ∈ [(⟨#[32]⟩ : ByteArray), ⟨#[32, 32]⟩, ⟨#[9]⟩, ⟨#[10]⟩, ⟨#[127]⟩, ⟨#[233]⟩], x.size ≤ 2) := fun x hx => by
            simp at hx
            rcases hx with rfl | rfl | rfl | rfl | rfl | rfl <;> decide
          clear hp2
          go_wp2_with fail
          refine HP2.out.mono ?_
          rintro e w9 ⟨x9, hx9, rfl, hc9, hg9⟩
          have hx1 := HX9.out x9 hx9
          have HB9 := Lib.hid (below_of HB5.out hs5 hg9 hg1)
          clear hg9 hc9 hx9 HX9 HP2
          go_wp2_with fail
          go_ret
          exact ⟨_, by rw [ByteArray.size_append]; omega, rfl, HB9.out⟩
        · have e0 : ((x5 : Int) == 0) = false := by rw [beq_eq_false_iff_ne]; omega
          by_cases h1 : x5 = 1
          · subst h1
            have hlt6 : decide ((S.size : Int) < 600) = true := decide_eq_true (by omega)
            go_wp2_with fail
            refine (below_at hn HC5.out 2 _ rfl (by omega) (by omega)).mono ?_
            rintro e w6 ⟨v, hv, rfl, hc6, hg6⟩
            have HB6 := Lib.hid (below_of HB5.out hs5 hg6 hg1)
            have hs6 := HB6.out.size
            clear hg6 hc6 HB5 HC5
            have hu1 : IntKind.i64.wrap (600 - (S.size : Int)) = 600 - (S.size : Int) := IntWalk.i64_in _ (by omega)
            have hu2 : IntKind.i64.wrap (600 - (S.size : Int) + (v : Int)) = 600 - (S.size : Int) + (v : Int) := IntWalk.i64_in _ (by omega)
            have HL := Lib.hid (long_any (600 - S.size + v) (by omega) 32 _ rfl (600 - (S.size : Int) + (v : Int)) (by omega) w6)
            go_wp2_with fail
            refine HL.out.mono ?_
            rintro e w7 ⟨S0, hS0, rfl, hb7⟩
            have HB7 := Lib.hid (HB6.out.trans (hb7.mono hs6))
            clear hb7 HB6 HL hu1 hu2 hlt6
            go_wp2_with fail
            go_ret
            exact ⟨_, by rw [ByteArray.size_append]; omega, rfl, HB7.out⟩
          · have e1 : ((x5 : Int) == 1) = false := by rw [beq_eq_false_iff_ne]; omega
            go_wp2_with fail
            go_ret
            exact ⟨_, by omega, rfl, HB5.out⟩
  | false =>
    have HBN := HB3
    have HCN := HC3
    obtain ⟨N, hN⟩ : ∃ N, N = x := ⟨_, rfl⟩
    have hN25 : N ≤ 25 := by omega
    rw [← hN]
    clear HB3 HC3
    have HNS := Lib.hid (Below.refl w.heap.size w)
    go_wp2_with fail
    go_loopw [5, 6] (fun sv iv wr => ∃ (k : Nat) (S : ByteArray), k ≤ N ∧ iv = .int .i64 (k : Int) ∧ S.size ≤ k * 9 ∧ .string S = sv ∧ Cu B n p cap gc oc wr g ∧ Below w.heap.size w wr) (fun _ iv _ => N - (intOf iv).toNat)
    case atStart => exact ⟨0, ByteArray.empty, by omega, rfl, by simp, rfl, HCN.out, HBN.out⟩
    case round =>
      obtain ⟨k, S, hk, rfl, hS, rfl, hcr, hbr⟩ := hrel
      have HCR := Lib.hid hcr
      have HBR := Lib.hid hbr
      have hsr := hbr.size
      clear hcr hbr
      by_cases hkn : k < N
      · have hk0 : (0 : Int) ≤ (k : Int) := by omega
        have hkl : (k : Int) < (N : Int) := by omega
        by_cases hk0' : 0 < k
        · have hd0 : decide ((0 : Int) < (k : Int)) = true := decide_eq_true (by omega)
          have HBY := HBR
          have HCY := HCR
          have hsy := hsr
          clear HBR HCR
          go_wp2_with fail
          refine (below_at hn HCY.out 2 _ rfl (by omega) (by omega)).mono ?_
          rintro e w5 ⟨m1, hm1, rfl, hc5, hg5⟩
          have HB5 := Lib.hid (below_of HBY.out hsy hg5 hg1)
          have HC5 := Lib.hid hc5
          have hs5 := HB5.out.size
          clear hg5 hc5 HBY HCY
          go_wp2_with fail
          refine (below_at hn HC5.out 3 _ rfl (by omega) (by omega)).mono ?_
          rintro e w6 ⟨m2, hm2, rfl, hc6, hg6⟩
          have HB6 := Lib.hid (below_of HB5.out hs5 hg6 hg1)
          have HC6 := Lib.hid hc6
          have hs6 := HB6.out.size
          clear hg6 hc6 HB5 HC5
          have hmm : m1 * m2 ≤ 2 := by have h1 : m1 ≤ 1 := by omega
                                       have h2 : m2 ≤ 2 := by omega
                                       calc m1 * m2 ≤ 1 * 2 := Nat.mul_le_mul h1 h2
                                         _ = 2 := rfl
          obtain ⟨mm, hmmd⟩ : ∃ mm, mm = m1 * m2 := ⟨_, rfl⟩
          have hw1 : IntKind.i64.wrap ((m1 : Int) * (m2 : Int)) = (mm : Int) := by rw [IntWalk.i64_in _ (by rw [← Int.natCast_mul]; omega), hmmd, Int.natCast_mul]
          have hw2 : IntKind.i64.wrap (1 + (mm : Int)) = 1 + (mm : Int) := IntWalk.i64_in _ (by omega)
          have hmm2 : mm ≤ 2 := by omega
          clear hmm hmmd
          go_wp2_with fail
          refine (long_any (1 + mm) (by omega) 32 _ rfl _ (by omega) _).mono ?_
          rintro e w7 ⟨S0, hS0, rfl, hb7⟩
          have HCX := Lib.hid (HC6.out.below hb7)
          have HBX := Lib.hid (HB6.out.trans (hb7.mono hs6))
          clear hb7 HC6 HB6 hw1 hw2
          go_wp2_with fail
          go_loopw [5, 7] (fun sv jv wi => ∃ (j : Nat) (S2 : ByteArray), j ≤ 5 ∧ jv = .int .i64 (j : Int) ∧ S2.size ≤ k * 9 + 3 + j ∧ .string S2 = sv ∧ Cu B n p cap gc oc wi g ∧ Below w.heap.size w wi) (fun _ jv _ => 5 - (intOf jv).toNat)
          case atStart => exact ⟨0, S ++ S0, by omega, rfl, by rw [ByteArray.size_append]; omega, rfl, HCX.out, HBX.out⟩
          case round =>
            obtain ⟨j, S2, hj, rfl, hS2, rfl, hci, hbi⟩ := hrel
            rename World => wi
            have HBI := Lib.hid hbi
            have hsi := hbi.size
            clear HBX HCX hbi
            go_wp2_with fail
            refine (below_at hn hci 5 _ rfl (by omega) (by omega)).mono ?_
            clear hci
            rintro e w8 ⟨y, hy, rfl, hc8, hg8⟩
            have HB8 := Lib.hid (below_of HBI.out hsi hg8 hg1)
            have HC8 := Lib.hid hc8
            have hs8 := HB8.out.size
            clear hg8 hc8 HBI
            by_cases hjy : j ≤ y
            · have hj0 : (j : Int) ≤ (y : Int) := by omega
              go_wp2_with fail
              refine (below_at hn HC8.out 94 _ rfl (by omega) (by omega)).mono ?_
              rintro e w9 ⟨v, hv, rfl, hc9, hg9⟩
              have HB9 := Lib.hid (below_of HB8.out hs8 hg9 hg1)
              have HC9 := Lib.hid hc9
              have hs9 := HB9.out.size
              clear hg9 hc9 HB8 HC8
              have hwv : IntKind.i64.wrap (33 + (v : Int)) = 33 + (v : Int) := IntWalk.i64_in _ (by omega)
              have hw8 : IntKind.u8.wrap (33 + (v : Int)) = 33 + (v : Int) := by unfold IntKind.wrap; simp [IntKind.bits, IntKind.signed]; omega
              obtain ⟨T, hT1, hcv⟩ := conv1 w9 (33 + (v : Int)) (by omega) (by omega)
              go_wp2_with fail
              go_roundw
              case rel => exact ⟨j + 1, S2 ++ T, by omega, by go_num, by rw [ByteArray.size_append]; omega, rfl, HC9.out.below ((Below.refl _ _).alloc (Nat.le_refl _) _), HB9.out.alloc hs9 _⟩
              case measure => simp [intOf]; omega
            · have hj0 : ¬ (j : Int) ≤ (y : Int) := by omega
              go_wp2_with fail
              go_roundw
              case rel => exact ⟨k + 1, S2, by omega, by go_num, by omega, rfl, HC8.out, HB8.out⟩
              case measure => simp [intOf]; omega
        · obtain rfl : k = 0 := by omega
          go_wp2_with fail
          refine (once_at hn HCR.out 5 _ rfl (by omega) (by omega)).mono ?_
          rintro e wy ⟨b, rfl, hcy, hgy⟩
          have HBY := Lib.hid (below_of HBR.out hsr hgy hg1)
          have HCY := Lib.hid hcy
          have hsy := HBY.out.size
          clear hgy hcy HBR HCR
          cases b with
          | true =>
            go_wp2_with fail
            refine (below_at hn HCY.out 2 _ rfl (by omega) (by omega)).mono ?_
            rintro e w5 ⟨m1, hm1, rfl, hc5, hg5⟩
            have HB5 := Lib.hid (below_of HBY.out hsy hg5 hg1)
            have HC5 := Lib.hid hc5
            have hs5 := HB5.out.size
            clear hg5 hc5 HBY HCY
            go_wp2_with fail
            refine (below_at hn HC5.out 3 _ rfl (by omega) (by omega)).mono ?_
            rintro e w6 ⟨m2, hm2, rfl, hc6, hg6⟩
            have HB6 := Lib.hid (below_of HB5.out hs5 hg6 hg1)
            have HC6 := Lib.hid hc6
            have hs6 := HB6.out.size
            clear hg6 hc6 HB5 HC5
            have hmm : m1 * m2 ≤ 2 := by have h1 : m1 ≤ 1 := by omega
                                         have h2 : m2 ≤ 2 := by omega
                                         calc m1 * m2 ≤ 1 * 2 := Nat.mul_le_mul h1 h2
                                           _ = 2 := rfl
            obtain ⟨mm, hmmd⟩ : ∃ mm, mm = m1 * m2 := ⟨_, rfl⟩
            have hw1 : IntKind.i64.wrap ((m1 : Int) * (m2 : Int)) = (mm : Int) := by rw [IntWalk.i64_in _ (by rw [← Int.natCast_mul]; omega), hmmd, Int.natCast_mul]
            have hw2 : IntKind.i64.wrap (1 + (mm : Int)) = 1 + (mm : Int) := IntWalk.i64_in _ (by omega)
            have hmm2 : mm ≤ 2 := by omega
            clear hmm hmmd
            go_wp2_with fail
            refine (long_any (1 + mm) (by omega) 32 _ rfl _ (by omega) _).mono ?_
            rintro e w7 ⟨S0, hS0, rfl, hb7⟩
            have HCX := Lib.hid (HC6.out.below hb7)
            have HBX := Lib.hid (HB6.out.trans (hb7.mono hs6))
            clear hb7 HC6 HB6 hw1 hw2
            go_wp2_with fail
            go_loopw [5, 7] (fun sv jv wi => ∃ (j : Nat) (S2 : ByteArray), j ≤ 5 ∧ jv = .int .i64 (j : Int) ∧ S2.size ≤ 0 * 9 + 3 + j ∧ .string S2 = sv ∧ Cu B n p cap gc oc wi g ∧ Below w.heap.size w wi) (fun _ jv _ => 5 - (intOf jv).toNat)
            case atStart => exact ⟨0, S ++ S0, by omega, rfl, by rw [ByteArray.size_append]; omega, rfl, HCX.out, HBX.out⟩
            case round =>
              obtain ⟨j, S2, hj, rfl, hS2, rfl, hci, hbi⟩ := hrel
              rename World => wi
              have HBI := Lib.hid hbi
              have hsi := hbi.size
              clear HBX HCX hbi
              go_wp2_with fail
              refine (below_at hn hci 5 _ rfl (by omega) (by omega)).mono ?_
              clear hci
              rintro e w8 ⟨y, hy, rfl, hc8, hg8⟩
              have HB8 := Lib.hid (below_of HBI.out hsi hg8 hg1)
              have HC8 := Lib.hid hc8
              have hs8 := HB8.out.size
              clear hg8 hc8 HBI
              by_cases hjy : j ≤ y
              · have hj0 : (j : Int) ≤ (y : Int) := by omega
                go_wp2_with fail
                refine (below_at hn HC8.out 94 _ rfl (by omega) (by omega)).mono ?_
                rintro e w9 ⟨v, hv, rfl, hc9, hg9⟩
                have HB9 := Lib.hid (below_of HB8.out hs8 hg9 hg1)
                have HC9 := Lib.hid hc9
                have hs9 := HB9.out.size
                clear hg9 hc9 HB8 HC8
                have hwv : IntKind.i64.wrap (33 + (v : Int)) = 33 + (v : Int) := IntWalk.i64_in _ (by omega)
                have hw8 : IntKind.u8.wrap (33 + (v : Int)) = 33 + (v : Int) := by unfold IntKind.wrap; simp [IntKind.bits, IntKind.signed]; omega
                obtain ⟨T, hT1, hcv⟩ := conv1 w9 (33 + (v : Int)) (by omega) (by omega)
                go_wp2_with fail
                go_roundw
                case rel => exact ⟨j + 1, S2 ++ T, by omega, by go_num, by rw [ByteArray.size_append]; omega, rfl, HC9.out.below ((Below.refl _ _).alloc (Nat.le_refl _) _), HB9.out.alloc hs9 _⟩
                case measure => simp [intOf]; omega
              · have hj0 : ¬ (j : Int) ≤ (y : Int) := by omega
                go_wp2_with fail
                go_roundw
                case rel => exact ⟨0 + 1, S2, by omega, by go_num, by omega, rfl, HC8.out, HB8.out⟩
                case measure => simp [intOf]; omega
          | false =>
            have HCX := HCY
            have HBX := HBY
            clear HCY HBY
            go_wp2_with fail
            go_loopw [5, 7] (fun sv jv wi => ∃ (j : Nat) (S2 : ByteArray), j ≤ 5 ∧ jv = .int .i64 (j : Int) ∧ S2.size ≤ 0 * 9 + 3 + j ∧ .string S2 = sv ∧ Cu B n p cap gc oc wi g ∧ Below w.heap.size w wi) (fun _ jv _ => 5 - (intOf jv).toNat)
            case atStart => exact ⟨0, S, by omega, rfl, by omega, rfl, HCX.out, HBX.out⟩
            case round =>
              obtain ⟨j, S2, hj, rfl, hS2, rfl, hci, hbi⟩ := hrel
              rename World => wi
              have HBI := Lib.hid hbi
              have hsi := hbi.size
              clear HBX HCX hbi
              go_wp2_with fail
              refine (below_at hn hci 5 _ rfl (by omega) (by omega)).mono ?_
              clear hci
              rintro e w8 ⟨y, hy, rfl, hc8, hg8⟩
              have HB8 := Lib.hid (below_of HBI.out hsi hg8 hg1)
              have HC8 := Lib.hid hc8
              have hs8 := HB8.out.size
              clear hg8 hc8 HBI
              by_cases hjy : j ≤ y
              · have hj0 : (j : Int) ≤ (y : Int) := by omega
                go_wp2_with fail
                refine (below_at hn HC8.out 94 _ rfl (by omega) (by omega)).mono ?_
                rintro e w9 ⟨v, hv, rfl, hc9, hg9⟩
                have HB9 := Lib.hid (below_of HB8.out hs8 hg9 hg1)
                have HC9 := Lib.hid hc9
                have hs9 := HB9.out.size
                clear hg9 hc9 HB8 HC8
                have hwv : IntKind.i64.wrap (33 + (v : Int)) = 33 + (v : Int) := IntWalk.i64_in _ (by omega)
                have hw8 : IntKind.u8.wrap (33 + (v : Int)) = 33 + (v : Int) := by unfold IntKind.wrap; simp [IntKind.bits, IntKind.signed]; omega
                obtain ⟨T, hT1, hcv⟩ := conv1 w9 (33 + (v : Int)) (by omega) (by omega)
                go_wp2_with fail
                go_roundw
                case rel => exact ⟨j + 1, S2 ++ T, by omega, by go_num, by rw [ByteArray.size_append]; omega, rfl, HC9.out.below ((Below.refl _ _).alloc (Nat.le_refl _) _), HB9.out.alloc hs9 _⟩
                case measure => simp [intOf]; omega
              · have hj0 : ¬ (j : Int) ≤ (y : Int) := by omega
                go_wp2_with fail
                go_roundw
                case rel => exact ⟨0 + 1, S2, by omega, by go_num, by omega, rfl, HC8.out, HB8.out⟩
                case measure => simp [intOf]; omega
      · obtain rfl : k = N := by omega
        clear hkn
        go_wp2_with fail
        refine (below_at hn HCR.out 12 _ rfl (by omega) (by omega)).mono ?_
        rintro e w5 ⟨x5, hx5, rfl, hc5, hg5⟩
        have HB5 := Lib.hid (below_of HBR.out hsr hg5 hg1)
        have HC5 := Lib.hid hc5
        have hs5 := HB5.out.size
        clear hg5 hc5 HBR HCR
        by_cases h0 : x5 = 0
        · subst h0
          have hp2 : Calls Tryd.prog 39 #[.pointer (some ⟨g, 0, none⟩), .slice (some ⟨w5.heap.size, 0, none⟩) 6 6] (w5.alloc (.cells #[.string ⟨#[32]⟩, .string ⟨#[32, 32]⟩, .string ⟨#[9]⟩, .string ⟨#[10]⟩, .string ⟨#[127]⟩, .string ⟨#[233]⟩] 9)) _ := pickStrNew hn HC5.out [⟨#[32]⟩, ⟨#[32, 32]⟩, ⟨#[9]⟩, ⟨#[10]⟩, ⟨#[127]⟩, ⟨#[233]⟩] 6 6 rfl (by decide) (by decide) #[.string ⟨#[32]⟩, .string ⟨#[32, 32]⟩, .string ⟨#[9]⟩, .string ⟨#[10]⟩, .string ⟨#[127]⟩, .string ⟨#[233]⟩] rfl 9
          have HP2 := Lib.hid hp2
          have HX9 : Hid (∀ x ∈ [(⟨#[32]⟩ : ByteArray), ⟨#[32, 32]⟩, ⟨#[9]⟩, ⟨#[10]⟩, ⟨#[127]⟩, ⟨#[233]⟩], x.size ≤ 2) := fun x hx => by
            simp at hx
            rcases hx with rfl | rfl | rfl | rfl | rfl | rfl <;> decide
          clear hp2
          go_wp2_with fail
          refine HP2.out.mono ?_
          rintro e w9 ⟨x9, hx9, rfl, hc9, hg9⟩
          have hx1 := HX9.out x9 hx9
          have HB9 := Lib.hid (below_of HB5.out hs5 hg9 hg1)
          clear hg9 hc9 hx9 HX9 HP2
          go_wp2_with fail
          go_ret
          exact ⟨_, by rw [ByteArray.size_append]; omega, rfl, HB9.out⟩
        · have e0 : ((x5 : Int) == 0) = false := by rw [beq_eq_false_iff_ne]; omega
          by_cases h1 : x5 = 1
          · subst h1
            have hlt6 : decide ((S.size : Int) < 600) = true := decide_eq_true (by omega)
            go_wp2_with fail
            refine (below_at hn HC5.out 2 _ rfl (by omega) (by omega)).mono ?_
            rintro e w6 ⟨v, hv, rfl, hc6, hg6⟩
            have HB6 := Lib.hid (below_of HB5.out hs5 hg6 hg1)
            have hs6 := HB6.out.size
            clear hg6 hc6 HB5 HC5
            have hu1 : IntKind.i64.wrap (600 - (S.size : Int)) = 600 - (S.size : Int) := IntWalk.i64_in _ (by omega)
            have hu2 : IntKind.i64.wrap (600 - (S.size : Int) + (v : Int)) = 600 - (S.size : Int) + (v : Int) := IntWalk.i64_in _ (by omega)
            have HL := Lib.hid (long_any (600 - S.size + v) (by omega) 32 _ rfl (600 - (S.size : Int) + (v : Int)) (by omega) w6)
            go_wp2_with fail
            refine HL.out.mono ?_
            rintro e w7 ⟨S0, hS0, rfl, hb7⟩
            have HB7 := Lib.hid (HB6.out.trans (hb7.mono hs6))
            clear hb7 HB6 HL hu1 hu2 hlt6
            go_wp2_with fail
            go_ret
            exact ⟨_, by rw [ByteArray.size_append]; omega, rfl, HB7.out⟩
          · have e1 : ((x5 : Int) == 1) = false := by rw [beq_eq_false_iff_ne]; omega
            go_wp2_with fail
            go_ret
            exact ⟨_, by omega, rfl, HB5.out⟩
end Go.Proofs.YtopkdkehkdhmgabDoor
