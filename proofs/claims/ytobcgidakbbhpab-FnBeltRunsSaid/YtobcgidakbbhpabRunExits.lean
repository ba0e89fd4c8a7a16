/- The exits of a belt that is run, ranged over. -/
import Derived.Test.YtobcgidakbbhpabRunStep
import Derived.RangeFuncBox
import Derived.RangeFuncLeaves
import Derived.RangeFuncCalls
import Derived.Shelf.Abstract
import Derived.WalkKit
import Derived.OwnWalkIn
import Derived.TacticsInMore
import Derived.LoopNIn
import Derived.LoopIn
import Derived.Maps.AppendAt
namespace Go.Proofs.Ytobcgidakbbhpab
open Go.RowKit Go.Shelf
set_option linter.unusedVariables false
attribute [local go_sem] Oper.semAt_some

/-- A round keeps whatever lay below N but for the list's variable and its first row. -/
structure KpB (N E0 : Nat) (W W' : World) : Prop where
  size : W.heap.size ≤ W'.heap.size
  block : ∀ k, k < N → k < E0 ∨ E0 + 1 < k → W'.heap[k]? = W.heap[k]?
theorem KpB.cell {N E0 : Nat} {W W' : World} (h : KpB N E0 W W') {B i : Nat} {v : Value} (hB : B < N) (hne : E0 + 1 < B) (hc : W.cell? ⟨B, i, none⟩ = some v) : W'.cell? ⟨B, i, none⟩ = some v :=
  (World.cell?_of_block (a := ⟨B, i, none⟩) (h.block B hB (.inr hne))).trans hc
theorem Touch.cell {lo hi : Nat} {W W' : World} (h : Touch lo hi W W') {B i : Nat} {v : Value} (hB : hi ≤ B) (hs : B < W.heap.size) (hc : W.cell? ⟨B, i, none⟩ = some v) : W'.cell? ⟨B, i, none⟩ = some v :=
  (World.cell?_of_block (a := ⟨B, i, none⟩) (h.block B hs (.inr hB))).trans hc

theorem exits_any (S : Int) (gw : Nat) (w : World) :
    Calls Try.prog 81 #[.pointer (some ⟨gw, 0, none⟩), .int .i64 S] w fun e w' => e = .returned (.func (.func 120) #[] #[.pointer (some ⟨w.heap.size + 1, 0, none⟩), .pointer (some ⟨w.heap.size, 0, none⟩)]) ∧ w' = (w.alloc (.cells #[.pointer (some ⟨gw, 0, none⟩)] 94)).alloc (.cells #[.int .i64 S] 3) := by
  go_enter Try.func81, Try.ntmps81
  go_wp2
  go_ret
  exact ⟨rfl, rfl⟩

set_option maxRecDepth 100000 in
set_option maxHeartbeats 2000000 in
theorem exits1_in (n S : Nat) (hS : S ≤ 2000) (L G : Int) (H : Bool) (m : Nat) (z : Nat → Int) (hok : OkP L G m z) (gw lo hi N E0 B1 B2 lr : Nat) (hgw : lo ≤ gw ∧ gw < hi) (hhi : hi ≤ N) (hBx : hi ≤ E0) (hB1 : hi ≤ B1 ∧ B1 < N ∧ E0 + 1 < B1) (hB2 : hi ≤ B2 ∧ B2 < N ∧ E0 + 1 < B2)
    (J : List Int → World → Prop) (hJt : ∀ l W W', J l W → N ≤ W.heap.size → Touch lo hi W W' → J l W')
    (hY : ∀ l (x s : Int) W, J l W → l.length ≤ 80 → N ≤ W.heap.size → YieldAt Fence.wide (n - 1) Try.prog lr #[.agg #[.int .i64 x, .int .i64 s]] W fun e W' => e = .returned (.bool true) ∧ J (l ++ [x, s]) W' ∧ KpB N E0 W W')
    (W : World) (hN : N ≤ W.heap.size) (c1 : W.cell? ⟨B1, 0, none⟩ = some (.int .i64 (S : Int))) (c2 : W.cell? ⟨B2, 0, none⟩ = some (.pointer (some ⟨gw, 0, none⟩))) (hR : RunAt W gw lo hi L G H m z) (h0 : J [] W) :
    CallsIn Fence.wide n Try.prog 120 #[.func (.yield lr) #[] #[], .pointer (some ⟨B1, 0, none⟩), .pointer (some ⟨B2, 0, none⟩)] W fun e W' => (∃ v, e = .returned v) ∧ RunAt W' gw lo hi L G H (ru L G H m z S).n (ru L G H m z S).z ∧ J (ru L G H m z S).l W' ∧ N ≤ W'.heap.size := by
  have HR := Lib.hid hR
  have HJ := Lib.hid h0
  have HOK := Lib.hid (fun s => ru_ok (H := H) hok s)
  have HLEN := Lib.hid (fun s => (ru_len (L := L) (G := G) (H := H) (n := m) (z := z) s))
  have HJT := Lib.hid hJt
  have HY := Lib.hid hY
  have hm40 : m ≤ 40 := hok.2.2.1
  clear hR h0 hok hJt hY
  refine callsIn_of_wp Try.func120 rfl trivial ?_ rfl
  simp only [Try.ntmps120, List.size_toArray, List.length_cons, List.length_nil, Nat.reduceAdd, Nat.reduceSub, Array.replicate_succ, Array.replicate_zero, List.push_toArray, List.append_toArray, List.nil_append, List.cons_append]
  gi_wp2
  gi_loopw [8] (fun sv wr => ∃ s : Nat, s ≤ S ∧ sv = .int .i64 (s : Int) ∧ Hid (RunAt wr gw lo hi L G H (ru L G H m z s).n (ru L G H m z s).z) ∧ Hid (J (ru L G H m z s).l wr) ∧ N ≤ wr.heap.size ∧ wr.cell? ⟨B2, 0, none⟩ = some (.pointer (some ⟨gw, 0, none⟩))) (fun sv _ => S - (intOf sv).toNat)
  case atStart => exact ⟨0, by omega, rfl, HR, HJ, hN, c2⟩
  case round =>
    clear c2 hN HR HJ
    obtain ⟨s, hs, rfl, HR, HJ, hN, c2⟩ := hrel
    by_cases hsS : s < S
    · have hs0 : (0 : Int) ≤ (s : Int) := by omega
      have hsl : (s : Int) < (S : Int) := by omega
      have hws : IntKind.i64.wrap ((s : Int) + 1) = (s : Int) + 1 := IntWalk.i64_in _ (by omega)
      have hok := HOK.out s
      have hln := HLEN.out s
      cases hl : lq L H (ru L G H m z s).n (ru L G H m z s).z with
      | true =>
        have HE := Lib.hid (ru_yes hl)
        have HCL := Lib.hid (leave_run_yes hok HR.out hgw (by omega) hl)
        have hl80 : (ru L G H m z s).l.length ≤ 80 := by rw [hln.2]; omega
        have hokn := HOK.out (s + 1)
        obtain ⟨r, hr⟩ : ∃ r, r = ru L G H m z s := ⟨_, rfl⟩
        rw [← hr] at HE HCL hl80 HJ hok
        have hokS : OkP L G (r.n - 1) (shZ r.z) := by
          obtain ⟨-, q0, -⟩ := lq_yes hl
          rw [← hr] at q0
          obtain ⟨k, hk⟩ : ∃ k, r.n = k + 1 := ⟨r.n - 1, by omega⟩
          rw [hk] at hok ⊢
          exact okIt_shift hok
        have HOS := Lib.hid hokS
        have HL8 := Lib.hid hl80
        obtain ⟨x, hx⟩ : ∃ x, x = r.z 0 := ⟨_, rfl⟩
        rw [← hx] at HE HCL
        clear hl hln hok hokn hokS hl80 hr hx HR HOK HLEN
        gi_wp2_with (refine ⟨trivial, (fun h => by cases h), ?_⟩; gi_at_call 99; refine (callsIn_wide.2 HCL.out).mono ?_; rintro e w2 ⟨rfl, hR2, hT2⟩; have HR2 := Lib.hid hR2; have hN2 : N ≤ w2.heap.size := Nat.le_trans hN hT2.size; have c22 := hT2.cell hB2.1 (by omega) c2; obtain ⟨fn, tmps, assign, body, hy, hRd⟩ := HY.out r.l x s w2 (HJT.out _ _ _ HJ.out hN hT2) HL8.out hN2; have HRD := Lib.hid hRd; clear hR2 hT2 hRd c2)
        refine ⟨(fun h => by cases h), HRD.out.mono ?_⟩
        rintro e w3 ⟨rfl, hJ3, hK3⟩
        have hsz3 := hK3.size
        have hR3 : RunAt w3 gw lo hi L G H (r.n - 1) (shZ r.z) := HR2.out.keep hgw.2 (fun k hk => hK3.block k (by omega) (.inl (by omega)))
        have c23 := hK3.cell hB2.2.1 hB2.2.2 c22
        have HCS := Lib.hid (step_run HOS.out hR3 hgw (by omega))
        have HJ3 := Lib.hid hJ3
        clear hJ3 hK3 hR3 c22 hy HRD HR2 HJ HCL
        gi_wp2_with (refine ⟨trivial, (fun h => by cases h), ?_⟩; gi_at_call 98; refine (callsIn_wide.2 HCS.out).mono ?_; rintro e w4 ⟨rfl, hR4, hT4⟩; have HR4 := Lib.hid hR4; have hN4 : N ≤ w4.heap.size := Nat.le_trans (Nat.le_trans hN2 hsz3) hT4.size; have c24 := hT4.cell hB2.1 (by omega) c23; have HJ4 := Lib.hid (HJT.out _ _ _ HJ3.out (Nat.le_trans hN2 hsz3) hT4); clear hR4 hT4 c23)
        go_roundw
        case rel => exact ⟨s + 1, by omega, by congr 1, by rw [HE.out]; exact HR4, by rw [HE.out]; exact HJ4, hN4, c24⟩
        case measure => simp only [intOf]; omega
      | false =>
        have HE := Lib.hid (ru_no hl)
        have HCL := Lib.hid (leave_run_no hok HR.out hgw (by omega) hl)
        obtain ⟨r, hr⟩ : ∃ r, r = ru L G H m z s := ⟨_, rfl⟩
        rw [← hr] at HE HCL HJ hok
        have HOS := Lib.hid hok
        clear hl hln hok hr HR HOK HLEN HY
        gi_wp2_with (refine ⟨trivial, (fun h => by cases h), ?_⟩; gi_at_call 99; refine (callsIn_wide.2 HCL.out).mono ?_; rintro e w2 ⟨rfl, hR2, hT2⟩; have hN2 : N ≤ w2.heap.size := Nat.le_trans hN hT2.size; have c22 := hT2.cell hB2.1 (by omega) c2; have HJ2 := Lib.hid (HJT.out _ _ _ HJ.out hN hT2); have HCS := Lib.hid (step_run HOS.out hR2 hgw (by omega)); clear hR2 hT2 c2 HCL)
        refine ⟨fun _ _ => trivial, ?_⟩
        gi_wp2_with (refine ⟨trivial, (fun h => by cases h), ?_⟩; gi_at_call 98; refine (callsIn_wide.2 HCS.out).mono ?_; rintro e w4 ⟨rfl, hR4, hT4⟩; have HR4 := Lib.hid hR4; have hN4 : N ≤ w4.heap.size := Nat.le_trans hN2 hT4.size; have c24 := hT4.cell hB2.1 (by omega) c22; have HJ4 := Lib.hid (HJT.out _ _ _ HJ2.out hN2 hT4); clear hR4 hT4 c22)
        go_roundw
        case rel => exact ⟨s + 1, by omega, by congr 1, by rw [HE.out]; exact HR4, by rw [HE.out]; exact HJ4, hN4, c24⟩
        case measure => simp only [intOf]; omega
    · obtain rfl : s = S := by omega
      clear HY HJT HOK HLEN
      gi_wp2
      go_end0
      exact ⟨⟨_, rfl⟩, HR.out, HJ.out, hN⟩

end Go.Proofs.Ytobcgidakbbhpab
