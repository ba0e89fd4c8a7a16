/- What the law of the lines needs: the fields as texts, their joined text, the comparison. -/
import Derived.Test.YtopkdkehkdhmgabDoorAgainPlain
import Derived.Test.YtopkdkehkdhmgabDoorFldImpl
import Derived.Test.YtopkdkehkdhmgabDoorFormatIntImpl
import Derived.Deep.LoopGhost
import Derived.BigQuiet
import Derived.Deep.QuietTactic
import Derived.Deep.RegionWith
import Derived.OwnWalk
namespace Go.Proofs.YtopkdkehkdhmgabDoor
open Go.RowKit
set_option linter.unusedVariables false

set_option maxRecDepth 100000 in
set_option maxHeartbeats 1000000 in
theorem sameTexts_any (n : Nat) (hn : n ≤ 1048576) (xs : List ByteArray) (pa pb : Option Addr) (ca cb : Nat) (ga gb : Nat) (w : World)
    (ha : 0 < n → pa = some ⟨ga, 0, none⟩ ∧ ga < w.heap.size) (hb : 0 < n → pb = some ⟨gb, 0, none⟩ ∧ gb < w.heap.size)
    (hca : ∀ j, j < n → w.cell? ⟨ga, j, none⟩ = some (.string (xs.getD j ByteArray.empty))) (hcb : ∀ j, j < n → w.cell? ⟨gb, j, none⟩ = some (.string (xs.getD j ByteArray.empty))) :
    Calls Tryd.prog 17 #[.slice pa n ca, .slice pb n cb] w fun e w' => e = .returned (.bool true) ∧ Below w.heap.size w w' := by
  have HA := Lib.hid hca
  have HB := Lib.hid hcb
  have PA := Lib.hid ha
  have PB := Lib.hid hb
  clear hca hcb ha hb
  go_enter Tryd.func17, Tryd.ntmps17
  go_wp2_with fail
  go_loopw [5] (fun v wr => ∃ k : Nat, k ≤ n ∧ v = .int .i64 (k : Int) ∧ Below w.heap.size w wr) (fun v _ => n - (intOf v).toNat)
  case atStart => exact ⟨0, by omega, rfl, Below.refl _ _⟩
  case round =>
    obtain ⟨k, hk, rfl, hbw⟩ := hrel
    by_cases hkn : k < n
    · obtain ⟨rfl, hga⟩ := PA.out (by omega)
      obtain ⟨rfl, hgb⟩ := PB.out (by omega)
      have a0 := (hbw.cell (p := ⟨ga, k, none⟩) hga).trans (HA.out k hkn)
      have b0 := (hbw.cell (p := ⟨gb, k, none⟩) hgb).trans (HB.out k hkn)
      obtain ⟨x0, hx0⟩ : ∃ x, x = xs.getD k ByteArray.empty := ⟨_, rfl⟩
      rw [← hx0] at a0 b0
      clear hx0
      have hk0 : (0 : Int) ≤ (k : Int) := by omega
      have hkl : (k : Int) < (n : Int) := by omega
      go_wp2_with fail
      go_quiet (fail)
      go_wp2_with fail
      go_roundw
      case rel => exact ⟨k + 1, by omega, by congr 1, by first | exact hbw | exact hbw.drew | (refine hbw.trans ?_; exact ⟨rfl, rfl, rfl, Nat.le_refl _, fun _ _ => rfl⟩)⟩
      case measure => simp only [intOf]; omega
    · obtain rfl : k = n := by omega
      go_wp2_with fail
      go_ret
      exact ⟨rfl, hbw⟩
theorem row_cells {w : World} {B n : Nat} {v : Value} {xs : List ByteArray} (h : w.ownsRow B 9 1 v n (xs.map Value.string)) :
    ∃ p cap g, v = .slice p n cap ∧ (0 < n → p = some ⟨g, 0, none⟩ ∧ g < w.heap.size) ∧ ∀ j, j < n → w.cell? ⟨g, j, none⟩ = some (.string (xs.getD j ByteArray.empty)) := by
  have hl := h.1
  rw [List.length_map] at hl
  by_cases hn : n = 0
  · subst hn
    rcases h.2 with ⟨rfl, _⟩ | ⟨g, cap, cur, rfl, -⟩
    · exact ⟨_, _, 0, rfl, fun h => absurd h (by omega), fun j hj => absurd hj (by omega)⟩
    · exact ⟨_, _, 0, rfl, fun h => absurd h (by omega), fun j hj => absurd hj (by omega)⟩
  · obtain ⟨g, cap, rfl⟩ : ∃ g cap, v = .slice (some ⟨g, 0, none⟩) n cap := by
      rcases h.2 with ⟨_, h0⟩ | ⟨g, cap, cur, rfl, -⟩
      · exact absurd h0 hn
      · exact ⟨_, _, rfl⟩
    refine ⟨_, _, g, rfl, fun _ => ⟨rfl, (h.lt g rfl).2⟩, fun j hj => ?_⟩
    rw [h.cellAt j (by omega), List.getElem?_map, List.getElem?_eq_getElem (by omega), List.getD_eq_getElem?_getD, List.getElem?_eq_getElem (by omega)]
    rfl
/-- The fields as texts. -/
def textsOf (s : ByteArray) : List ByteArray := (flds s.data.toList s.size).map fun p => s.extract p.1 p.2
theorem strs_texts (s : ByteArray) : strsOf s (flds s.data.toList s.size) = (textsOf s).map Value.string := by unfold strsOf textsOf; rw [List.map_map]; rfl
theorem texts_fields (s : ByteArray) : (textsOf s).map (fun t => t.data.toList) = fieldsOf s := by
  unfold textsOf fieldsOf
  rw [List.map_map]
  apply List.map_congr_left
  intro p _
  exact extract_piece s p
theorem texts_size (s : ByteArray) (h : s.size ≤ 600) (j : Nat) : ((textsOf s).getD j ByteArray.empty).size ≤ 600 := by
  rw [List.getD_eq_getElem?_getD]
  cases hx : (textsOf s)[j]? with
  | none => show ByteArray.empty.size ≤ 600; decide
  | some x =>
    have hm : x ∈ textsOf s := List.mem_of_getElem? hx
    obtain ⟨p, hp, rfl⟩ := List.mem_map.1 hm
    show (s.extract p.1 p.2).size ≤ 600
    obtain ⟨h1, h2, -⟩ := flds_fields s.data.toList p hp
    have h3 := piece_len h2
    rw [← extract_piece] at h3
    have h4 : s.data.toList.length = s.size := rfl
    have h5 : ∀ u : ByteArray, u.data.toList.length = u.size := fun u => rfl
    rw [h5] at h3
    omega
theorem joined_step (s T : ByteArray) (k : Nat) (hk : k < (textsOf s).length) (hT : T.data.toList = joined ((fieldsOf s).take k)) :
    (T ++ (textsOf s).getD k ByteArray.empty ++ ⟨#[32]⟩).data.toList = joined ((fieldsOf s).take (k + 1)) := by
  have hk2 : k < (fieldsOf s).length := by rw [← texts_fields]; simpa using hk
  rw [List.take_succ_eq_append_getElem hk2, joined_snoc, ← hT]
  have : (fieldsOf s)[k] = ((textsOf s).getD k ByteArray.empty).data.toList := by
    rw [List.getD_eq_getElem?_getD, List.getElem?_eq_getElem hk]
    show _ = (textsOf s)[k].data.toList
    have h := texts_fields s
    have h2 : (fieldsOf s)[k]? = some ((textsOf s)[k].data.toList) := by rw [← h, List.getElem?_map, List.getElem?_eq_getElem hk]; rfl
    rw [List.getElem?_eq_getElem hk2] at h2
    injection h2
  rw [this]
  simp
theorem itoa_m3 : Lib.itoa (-3) = [45, 51] := by
  unfold Lib.itoa
  rw [if_pos (by decide), show (-3 : Int).natAbs = 3 from rfl, Lib.decDigits_one (by omega)]
  rfl
theorem fint_m3 (w : World) (htab : Lib.TabIs Tryd.prog w "internal/strconv.uint64pow10" .u64 Lib.pow10Tab) :
    Calls Tryd.prog 10 #[.int .i64 (-3)] w fun e w' => e = .returned (.string ⟨#[45, 51]⟩) ∧ Below w.heap.size w w' := by
  have := fint_any (-3) (by omega) (by omega) w htab
  rw [itoa_m3] at this
  exact this

end Go.Proofs.YtopkdkehkdhmgabDoor
