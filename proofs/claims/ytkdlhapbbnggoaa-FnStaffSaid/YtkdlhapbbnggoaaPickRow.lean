/- A choice of images as a row. -/
import Derived.Test.YtkdlhapbbnggoaaMostPlain
import Derived.Test.YtkdlhapbbnggoaaFlat
import Derived.IntWalk
namespace Go.Proofs.Ytkdlhapbbnggoaa
open Go.RowKit

def pkC (set : Nat) (z : Nat → Int) (k : Nat) : List Value := (List.range (pkN set k * 2)).map fun j => Value.int .i64 (pkZ set z k j)
theorem pkC_yes {set k : Nat} {z : Nat → Int} (h : set / 2 ^ k % 2 = 1) : pkC set z (k + 1) = pkC set z k ++ [.int .i64 (z (k * 2)), .int .i64 (z (k * 2 + 1))] := by
  unfold pkC
  rw [pkN_yes h, show (pkN set k + 1) * 2 = pkN set k * 2 + 1 + 1 by omega, List.range_succ, List.range_succ, List.map_append, List.map_append, List.append_assoc]
  congr 1
  · refine List.map_congr_left fun j hj => ?_
    have := List.mem_range.1 hj
    rw [pkZ_yes h, if_neg (by omega), if_neg (by omega)]
  · simp only [List.map_cons, List.map_nil, List.singleton_append]
    rw [pkZ_yes h, if_pos rfl, pkZ_yes h, if_neg (by omega), if_pos rfl]
theorem pkC_no {set k : Nat} {z : Nat → Int} (h : ¬ set / 2 ^ k % 2 = 1) : pkC set z (k + 1) = pkC set z k := by
  unfold pkC
  rw [pkN_no h, pkZ_no h]
theorem pkC_at {set k : Nat} {z : Nat → Int} (j : Nat) (hj : j < pkN set k * 2) : (pkC set z k)[j]? = some (.int .i64 (pkZ set z k j)) := by
  unfold pkC
  simp [List.getElem?_range hj]
theorem bit_nat (x : Nat) (hx : x < 1000000) : bits .and .i64 (x : Int) 1 = ((x % 2 : Nat) : Int) := by
  show IntKind.i64.wrap (((BitVec.ofInt 64 (x : Int) &&& BitVec.ofInt 64 1).toNat : Nat) : Int) = _
  have h1 : (BitVec.ofInt 64 (x : Int)).toNat = x := by
    rw [BitVec.ofInt_natCast, BitVec.toNat_ofNat]
    exact Nat.mod_eq_of_lt (by omega)
  have h2 : (BitVec.ofInt 64 (1 : Int)).toNat = 1 := rfl
  rw [BitVec.toNat_and, h1, h2, Nat.and_one_is_mod]
  exact IntWalk.i64_in _ (by omega)
theorem bit_at (set k : Nat) (hs : set < 1000000) : bits .and .i64 ((set : Int) / 2 ^ k) 1 = ((set / 2 ^ k % 2 : Nat) : Int) := by
  have h : ((set : Int) / 2 ^ k) = ((set / 2 ^ k : Nat) : Int) := by simp
  rw [h]
  exact bit_nat _ (Nat.lt_of_le_of_lt (Nat.div_le_self _ _) hs)
theorem bit_yes {set k : Nat} (hs : set < 1000000) (h : set / 2 ^ k % 2 = 1) : bits .and .i64 ((set : Int) / 2 ^ k) 1 = 1 := by rw [bit_at set k hs, h]; rfl
theorem bit_no {set k : Nat} (hs : set < 1000000) (h : ¬ set / 2 ^ k % 2 = 1) : bits .and .i64 ((set : Int) / 2 ^ k) 1 = 0 := by rw [bit_at set k hs, show set / 2 ^ k % 2 = 0 by omega]; rfl

end Go.Proofs.Ytkdlhapbbnggoaa
