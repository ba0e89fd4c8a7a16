/- The bags of a loop: the program's bagsOnTrays and bagsOf. -/
import Derived.Test.YtokhkcebdbopcabNest
import Derived.Test.YtokhkcebdbopcabNestChute
import Derived.Test.YtokhkcebdbopcabNestWant
import Derived.Test.YtokhkcebdbopcabBagsOk
import Derived.RangeFuncBox
import Derived.Lib.OthersKept
import Derived.Laws.AppendOwn
import Derived.Shelf.Abstract
import Derived.Lib.SliceRun
namespace Go.Proofs.Ytokhkcebdbopcab
open Go.RowKit Go.Shelf
set_option linter.unusedVariables false

theorem infoIntB : (Try.prog.info? 3).map (fun i => (i.zero, i.size, i.bytes)) = some (some (.int .i64 0), 1, 8) := by kernel_rfl

/-- Those of the first k numbers that are not 0. -/
def nzL (x : Nat → Int) : Nat → List Int
  | 0 => []
  | k + 1 => if x k = 0 then nzL x k else nzL x k ++ [x k]
theorem nzL_len (x : Nat → Int) : ∀ k, (nzL x k).length ≤ k
  | 0 => Nat.le_refl _
  | k + 1 => by
    have := nzL_len x k
    show (if x k = 0 then nzL x k else nzL x k ++ [x k]).length ≤ k + 1
    split
    · omega
    · simp; omega
theorem nzL_zero {x : Nat → Int} {k : Nat} (h : x k = 0) : nzL x (k + 1) = nzL x k := if_pos h
theorem nzL_one {x : Nat → Int} {k : Nat} (h : x k ≠ 0) : nzL x (k + 1) = nzL x k ++ [x k] := if_neg h
theorem nzL_all {x : Nat → Int} : ∀ k, (∀ j, j < k → x j ≠ 0) → nzL x k = (List.range k).map x
  | 0, _ => rfl
  | k + 1, h => by
    rw [nzL_one (h k (by omega)), nzL_all k (fun j hj => h j (by omega)), List.range_succ, List.map_append]; rfl

theorem zero1_any (x : Int) (w : World) : Calls Try.prog 103 #[.int .i64 x] w fun e w' => e = .returned (.bool (x == 0)) ∧ w = w' := by
  go_enter Try.func103, Try.ntmps103
  go_wp2
  go_ret
  exact ⟨rfl, rfl⟩

set_option maxRecDepth 100000 in
set_option maxHeartbeats 1000000 in
theorem zeroIdx_any (n : Nat) (hn : n ≤ 1048576) (x : Nat → Int) (p : Option Addr) (c g o : Nat) (w : World) (h : FlatAt w 0 w.heap.size p g o n (fun j => .int .i64 (x j))) :
    Calls Try.prog 105 #[.slice p n c, .func (.func 103) #[] #[]] w fun e w' => (∃ i : Int, e = .returned (.int .i64 i) ∧ ((i = -1 ∧ ∀ j, j < n → x j ≠ 0) ∨ ∃ k : Nat, i = (k : Int) ∧ k < n ∧ x k = 0 ∧ ∀ j, j < k → x j ≠ 0)) ∧ w = w' := by
  have eg : ∀ args w, (callFunc 103 args).run Try.prog w = .ok (.enter 103 args) w := enters_of Try.func103 (by kernel_rfl) rfl
  have H := Lib.hid h
  clear h
  go_enter Try.func105, Try.ntmps105
  go_wp2_with fail
  go_loopw [8] (fun v wr => ∃ k : Nat, k ≤ n ∧ v = .int .i64 (k : Int) ∧ Hid (∀ j, j < k → x j ≠ 0) ∧ w = wr) (fun v _ => n - (intOf v).toNat)
  case atStart => exact ⟨0, by omega, rfl, fun j hj => absurd hj (by omega), rfl⟩
  case round =>
    obtain ⟨k, hk, rfl, HN, rfl⟩ := hrel
    by_cases hkn : k < n
    · obtain ⟨rfl, -, hg⟩ := H.out.1 (by omega)
      have a0 := H.out.int k hkn
      have hk0 : (0 : Int) ≤ (k : Int) := by omega
      have hkl : (k : Int) < (n : Int) := by omega
      obtain ⟨y, hy⟩ : ∃ y, y = x k := ⟨_, rfl⟩
      rw [← hy] at a0
      have HY := Lib.hid hy
      clear hy
      have hz := Lib.hid (fun W => zero1_any y W)
      by_cases e : y = 0
      · have hb : (y == 0) = true := by simpa using e
        rw [hb] at hz
        have HE := Lib.hid (HY.out.symm.trans e)
        clear e hb
        go_wp2_with (go_at_fn 103; refine (hz.out _).mono ?_; rintro e w2 ⟨rfl, rfl⟩)
        go_ret
        exact ⟨⟨k, rfl, .inr ⟨k, rfl, hkn, HE.out, HN.out⟩⟩, rfl⟩
      · have hb : (y == 0) = false := by simpa using e
        rw [hb] at hz
        have HE := Lib.hid (show x k ≠ 0 by rw [← HY.out]; exact e)
        clear e hb
        go_wp2_with (go_at_fn 103; refine (hz.out _).mono ?_; rintro e w2 ⟨rfl, rfl⟩)
        go_roundw
        case rel => exact ⟨k + 1, by omega, by congr 1, fun j hj => by
          by_cases e : j = k
          · subst e; exact HE.out
          · exact HN.out j (by omega), by first | rfl | trivial⟩
        case measure => simp only [intOf]; omega
    · obtain rfl : k = n := by omega
      go_wp2_with fail
      go_ret
      exact ⟨⟨-1, rfl, .inl ⟨rfl, HN.out⟩⟩, rfl⟩

theorem FlatAt.set0 {w : World} {lo hh : Nat} {p : Option Addr} {g m : Nat} {f : Nat → Value} {u : Value} (h : FlatAt w lo hh p g 0 m f) (i : Nat) (hi : i < m) :
    FlatAt (w.setCell ⟨g, i, none⟩ u) lo hh p g 0 m (fun j => if j = i then u else f j) := by
  have := h.set (u := u) i hi
  rwa [Nat.zero_add] at this
theorem blk_setCells {g : Nat} {t : TypeId} {S : Nat} : ∀ (vs : List Value) (o : Nat) (w : World), (∃ cur, w.heap[g]? = some (.cells cur t (0, 0)) ∧ cur.size = S) → ∃ cur, (w.setCells g o vs).heap[g]? = some (.cells cur t (0, 0)) ∧ cur.size = S
  | [], _, _, h => h
  | v :: r, o, w, ⟨cur, h1, h2⟩ => blk_setCells r (o + 1) _ ⟨_, blk_set h1 v, by simp [h2]⟩
theorem grown_setCells {a : World} {g : Nat} : ∀ (vs : List Value) (o : Nat) (w : World), a.grownBy w (some g) → a.grownBy (w.setCells g o vs) (some g)
  | [], _, _, h => h
  | v :: r, o, w, h => grown_setCells r (o + 1) _ (grown_setCell h (.inl rfl) v)

set_option maxRecDepth 100000 in
set_option maxHeartbeats 4000000 in
theorem delete_any (n : Nat) (hn : n ≤ 1048576) (x : Nat → Int) (c g : Nat) (lo hi : Nat) (w : World) (h : FlatAt w lo hi (some ⟨g, 0, none⟩) g 0 n (fun j => .int .i64 (x j))) (hh : hi ≤ w.heap.size) (hf : FreeAt w g 0 n) (hnc : n ≤ c) (t0 : TypeId) (cur0 : Array Value) (hbk : w.heap[g]? = some (.cells cur0 t0 (0, 0))) :
    Calls Try.prog 102 #[.slice (some ⟨g, 0, none⟩) n c, .func (.func 103) #[] #[]] w fun e w' => e = .returned (.slice (some ⟨g, 0, none⟩) (nzL x n).length c) ∧ (∀ j, j < (nzL x n).length → w'.cell? ⟨g, j, none⟩ = some (.int .i64 ((nzL x n).getD j 0))) ∧ w.grownBy w' (some g) ∧ ∃ cur, w'.heap[g]? = some (.cells cur t0 (0, 0)) ∧ cur.size = cur0.size := by
  have eg : ∀ args w, (callFunc 103 args).run Try.prog w = .ok (.enter 103 args) w := enters_of Try.func103 (by kernel_rfl) rfl
  have hix := Lib.hid (zeroIdx_any n hn x (some ⟨g, 0, none⟩) c g 0 w (h.wide (Nat.zero_le _) hh))
  have H := Lib.hid h
  have HF := Lib.hid hf
  have HBK := Lib.hid hbk
  clear h hf hbk
  obtain ⟨RL, hRL⟩ : ∃ RL, RL = nzL x n := ⟨_, rfl⟩
  rw [← hRL]
  have HRL := Lib.hid hRL
  clear hRL
  go_enter Try.func102, Try.ntmps102
  go_wp2_with fail
  refine hix.out.mono ?_
  rintro e w2 ⟨⟨i, rfl, hi⟩, rfl⟩
  rcases hi with ⟨rfl, hall⟩ | ⟨k0, rfl, hk0n, hx0, hbef⟩
  · obtain rfl : RL = (List.range n).map x := by rw [HRL.out]; exact nzL_all n hall
    have HX := Lib.hid hall
    clear hall hix
    go_wp2_with fail
    go_ret
    refine ⟨by simp, fun j hj => ?_, ⟨rfl, rfl, rfl, Nat.le_refl _, fun _ _ _ => rfl⟩, cur0, HBK.out, rfl⟩
    have hj2 : j < n := by simpa using hj
    have := H.out.2 j hj2
    rw [Nat.zero_add] at this
    rw [this, List.getD_eq_getElem?_getD, List.getElem?_map, List.getElem?_range hj2]; rfl
  · have hne : ((k0 : Int) == -1) = false := by first | (simp; done) | (simp; omega)
    have hl0 : (nzL x (k0 + 1)).length = k0 := by rw [nzL_zero hx0, nzL_all k0 hbef]; simp
    have hk00 : (0 : Int) ≤ (k0 : Int) := by omega
    have hwk0 : IntKind.i64.wrap ((k0 : Int) + 1) = (k0 : Int) + 1 := IntWalk.i64_in _ (by omega)
    have HL0 := Lib.hid hl0
    have HBF := Lib.hid hbef
    have HX0 := Lib.hid hx0
    have hK := Lib.hid hk0n
    clear hix hl0 hbef hx0
    go_wp2_with fail
    go_loopw [5, 6] (fun iv jv wr => ∃ (k q : Nat) (f : Nat → Int), k ≤ n ∧ jv = .int .i64 (k : Int) ∧ iv = .int .i64 (q : Int) ∧ q < k ∧ Hid (q = (nzL x k).length) ∧ Hid (∀ j, j < q → f j = (nzL x k).getD j 0) ∧ Hid (∀ j, k ≤ j → f j = x j) ∧ Hid (FlatAt wr lo hi (some ⟨g, 0, none⟩) g 0 n (fun j => .int .i64 (f j))) ∧ Hid (FreeAt wr g 0 n) ∧ Hid (w.grownBy wr (some g)) ∧ Hid (∃ cur, wr.heap[g]? = some (.cells cur t0 (0, 0)) ∧ cur.size = cur0.size)) (fun _ jv _ => n - (intOf jv).toNat)
    case atStart =>
      refine ⟨k0 + 1, k0, x, by have := hK.out; omega, by congr 1, rfl, by omega, HL0.out.symm, fun j hj => ?_, fun j _ => rfl, H.out, HF.out, ⟨rfl, rfl, rfl, Nat.le_refl _, fun _ _ _ => rfl⟩, ⟨cur0, HBK.out, rfl⟩⟩
      rw [nzL_zero HX0.out, nzL_all k0 HBF.out, List.getD_eq_getElem?_getD, List.getElem?_map, List.getElem?_range hj]; rfl
    case round =>
      obtain ⟨k, q, f, hk, rfl, rfl, hqk, HQ, HF1, HF2, HR, HFR, HG, HBC⟩ := hrel
      have hq0 : (0 : Int) ≤ (q : Int) := by omega
      have hkz : (0 : Int) ≤ (k : Int) := by omega
      by_cases hkn : k < n
      · have a0 := HR.out.int k hkn
        rw [Nat.zero_add, HF2.out k (Nat.le_refl _)] at a0
        have b0 := HR.out.int q (by omega)
        rw [Nat.zero_add] at b0
        have f0 := HFR.out q (by omega)
        rw [Nat.zero_add] at f0
        have hkl : (k : Int) < (n : Int) := by omega
        have hql : (q : Int) < (n : Int) := by omega
        have hwk : IntKind.i64.wrap ((k : Int) + 1) = (k : Int) + 1 := IntWalk.i64_in _ (by omega)
        have hwq : IntKind.i64.wrap ((q : Int) + 1) = (q : Int) + 1 := IntWalk.i64_in _ (by omega)
        by_cases e : x k = 0
        · have HN := Lib.hid (nzL_zero e)
          rw [e] at a0
          have hz := Lib.hid (fun W => zero1_any 0 W)
          rw [show ((0 : Int) == 0) = true from rfl] at hz
          clear e
          go_wp2_with (go_at_fn 103; refine (hz.out _).mono ?_; rintro e w2 ⟨rfl, rfl⟩)
          go_roundw
          case rel => exact ⟨k + 1, q, f, by omega, by congr 1, rfl, by omega, by rw [HN.out]; exact HQ.out, fun j hj => by rw [HN.out]; exact HF1.out j hj, fun j hj => HF2.out j (by omega), HR.out, HFR.out, HG.out, HBC.out⟩
          case measure => simp only [intOf]; omega
        · have HN := Lib.hid (nzL_one e)
          have hb : (x k == 0) = false := by simpa using e
          have hz := Lib.hid (fun W => zero1_any (x k) W)
          rw [hb] at hz
          obtain ⟨y, hy⟩ : ∃ y, y = x k := ⟨_, rfl⟩
          rw [← hy] at a0 hz HN
          have HY := Lib.hid hy
          clear e hb hy
          go_wp2_with (go_at_fn 103; refine (hz.out _).mono ?_; rintro e w2 ⟨rfl, rfl⟩)
          go_roundw
          case rel =>
            refine ⟨k + 1, q + 1, fun j => if j = q then y else f j, by omega, by congr 1, by congr 1, by omega, ?_, ?_, ?_, (HR.out.set0 q (by omega)).congr (fun j hj => ?_), HFR.out.set _ _, grown_setCell HG.out (.inl rfl) _, ?_⟩
            · show _ = _
              rw [HN.out, List.length_append, ← HQ.out]; rfl
            · intro j hj
              show (if j = q then y else f j) = _
              rw [HN.out]
              by_cases e : j = q
              · rw [if_pos e, List.getD_eq_getElem?_getD, List.getElem?_append_right (by rw [← HQ.out]; omega), ← HQ.out, show j - q = 0 by omega]; rfl
              · rw [if_neg e, List.getD_eq_getElem?_getD, List.getElem?_append_left (by rw [← HQ.out]; omega), ← List.getD_eq_getElem?_getD]
                exact HF1.out j (by omega)
            · intro j hj
              show (if j = q then y else f j) = _
              rw [if_neg (by omega)]
              exact HF2.out j (by omega)
            · show (if j = q then Value.int .i64 y else .int .i64 (f j)) = .int .i64 (if j = q then y else f j)
              split <;> rfl
            · obtain ⟨cur, h1, h2⟩ := HBC.out
              exact ⟨_, blk_set h1 _, by simp [h2]⟩
          case measure => simp only [intOf]; omega
      · obtain rfl : k = n := by omega
        have hclr : ∀ ty, (Builtin.clear_ #[22] ty #[.slice (some ⟨g, q, none⟩) (k - q) (c - q)]).run Try.prog wr = .ok (.tuple #[]) (wr.setCells g q (List.replicate (k - q) (.int .i64 0))) :=
          fun ty => Lib.run_clear_slice wr 22 3 ty (.int .i64 0) Try.underlying22 (fun w => by kernel_rfl) rfl rfl g q (k - q) (c - q) (by omega) (fun j hj => by have := HR.out.2 (q + j) (by omega); rw [Nat.zero_add] at this; rw [this]; rfl) (fun j hj => by have := HFR.out (q + j) (by omega); rw [Nat.zero_add] at this; exact this)
        obtain ⟨w9, hw9⟩ : ∃ w9, w9 = wr.setCells g q (List.replicate (k - q) (.int .i64 0)) := ⟨_, rfl⟩
        rw [← hw9] at hclr
        have HW9 := Lib.hid hw9
        have hqc : (q : Int) ≤ (c : Int) := by omega
        have hqcN : q ≤ c := by omega
        have hqn : q ≤ k := by omega
        have hqk2 : (q : Int) ≤ (k : Int) := by omega
        obtain ⟨m, hm⟩ : ∃ m, m = RL.length := ⟨_, rfl⟩
        have hmq : m = q := by rw [hm, HRL.out, ← HQ.out]
        clear hw9
        go_wp2_with fail
        go_ret
        refine ⟨by rw [← hm, hmq]; rfl, fun j hj => ?_, ?_, ?_⟩
        · rw [HW9.out, World.cell?_setCells_out g _ q wr ⟨g, j, none⟩ (fun _ _ => .inl (by show j < q; omega))]
          have := HR.out.2 j (by omega)
          rw [Nat.zero_add] at this
          rw [this, HRL.out, ← HF1.out j (by omega)]
        · rw [HW9.out]
          exact grown_setCells _ _ _ HG.out
        · rw [HW9.out]
          exact blk_setCells _ _ _ HBC.out

end Go.Proofs.Ytokhkcebdbopcab
