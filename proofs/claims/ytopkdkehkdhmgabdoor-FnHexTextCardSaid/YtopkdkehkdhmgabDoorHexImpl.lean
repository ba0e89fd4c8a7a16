/- What the program's EncodeHex returns. -/
import Derived.Test.YtopkdkehkdhmgabDoorSmall
import Derived.Test.YtopkdkehkdhmgabDoorHexPlain
import Derived.Test.YtopkdkehkdhmgabDoorChecked
import Derived.Laws.IdiomStrings
import Derived.OwnWalk
import Derived.Deep.AppendLies
import Derived.Deep.RegionLaw
import Derived.Laws.BytesArg
namespace Go.Proofs.YtopkdkehkdhmgabDoor
open Go.RowKit

theorem infoByte : (Tryd.prog.info? 5).map (fun i => (i.zero, i.size, i.bytes)) = some (some (.int .u8 0), 1, 1) := by kernel_rfl
def byt (b : UInt8) : Value := .int .u8 (b.toNat : Int)

def hexBytes : Array UInt8 := #[48, 49, 50, 51, 52, 53, 54, 55, 56, 57, 97, 98, 99, 100, 101, 102]
theorem hex_nat (W : World) : ∀ n : Nat, n < 16 → (Instr.index 9 (.string ⟨#[48, 49, 50, 51, 52, 53, 54, 55, 56, 57, 97, 98, 99, 100, 101, 102]⟩) (.int .u8 (n : Int))).run Tryd.prog W = .ok (.int .u8 ((Hex.dig n).toNat : Int)) W := fun n h => match n, h with
  | 0, _ => by kernel_rfl
  | 1, _ => by kernel_rfl
  | 2, _ => by kernel_rfl
  | 3, _ => by kernel_rfl
  | 4, _ => by kernel_rfl
  | 5, _ => by kernel_rfl
  | 6, _ => by kernel_rfl
  | 7, _ => by kernel_rfl
  | 8, _ => by kernel_rfl
  | 9, _ => by kernel_rfl
  | 10, _ => by kernel_rfl
  | 11, _ => by kernel_rfl
  | 12, _ => by kernel_rfl
  | 13, _ => by kernel_rfl
  | 14, _ => by kernel_rfl
  | 15, _ => by kernel_rfl
  | n + 16, h => absurd h (by omega)
theorem hex_at (x : Int) (h0 : 0 ≤ x) (h1 : x < 16) (n : Nat) (hn : (n : Int) = x) (W : World) : (Instr.index 9 (.string ⟨#[48, 49, 50, 51, 52, 53, 54, 55, 56, 57, 97, 98, 99, 100, 101, 102]⟩) (.int .u8 x)).run Tryd.prog W = .ok (.int .u8 ((Hex.dig n).toNat : Int)) W := by
  subst hn
  exact hex_nat W n (by omega)

theorem and15_fin : ∀ b : Fin 256, bits BinOp.and IntKind.u8 (b.val : Int) 15 = (b.val : Int) % 16 := by decide +kernel
theorem and15 (c : UInt8) : bits BinOp.and IntKind.u8 (c.toNat : Int) 15 = (c.toNat : Int) % 16 := and15_fin ⟨c.toNat, c.toNat_lt⟩

theorem take_snoc (s : ByteArray) (k : Nat) (h : k < s.size) : s.data.toList.take (k + 1) = s.data.toList.take k ++ [s[k]] := by
  rw [List.take_succ_eq_append_getElem (by simpa using h)]; rfl

set_option maxHeartbeats 1000000 in
theorem ienc_any (s : ByteArray) (hsz : s.size ≤ 20000) (w : World) :
    Calls Tryd.prog 9 #[.string s] w fun e w' => e = .returned (.tuple #[.string ⟨(Hex.enc s.data.toList).toArray⟩, .bool true]) ∧ Below w.heap.size w w' := by
  obtain ⟨i0, hi, hz0, hz1, hz2⟩ := info_parts infoByte
  have hd : decide ((20000 : Int) < (s.size : Int)) = false := decide_eq_false (by omega)
  go_enter Tryd.func9, Tryd.ntmps9
  go_wp2_with (refine wpList_make_own _ rfl _ _ 22 rfl w.heap.size 5 i0 (.int .u8 0) 1 Tryd.underlying22 hi hz0 hz1 .i64 .i64 _ (2 * s.size) rfl rfl (by omega) (by rw [hz2]; omega) (by unfold maxLen; omega) (Nat.le_refl _) ?_; intro w1 hown hgrow)
  have hb1 : Below w.heap.size w w1 := (Below.refl _ _).grown hgrow (Nat.le_refl _) (fun k hk => by cases hk)
  go_loopw [4, 5, 15] (fun out _ i wr => ∃ k : Nat, k ≤ s.size ∧ i = .int .i64 k ∧ wr.ownsRow w.heap.size 5 1 out (2 * k) ((Hex.enc (s.data.toList.take k)).map byt) ∧ Below w.heap.size w wr)
    (fun _ _ i _ => s.size - (intOf i).toNat)
  case atStart => exact ⟨0, Nat.zero_le _, rfl, hown, hb1⟩
  case round =>
    clear hown hgrow hb1
    obtain ⟨k, hk, rfl, hown, hb⟩ := hrel
    by_cases hlt : k < s.size
    · have h1 := hex_at ((s[k].toNat : Int) / 16) (by omega) (by have := s[k].toNat_lt; omega) (s[k].toNat / 16) (by omega)
      have h2 := hex_at ((s[k].toNat : Int) % 16) (by omega) (by omega) (s[k].toNat % 16) (by omega)
      have h3 := and15 s[k]
      have hb2 := hb.size
      have HE : Hid ((Hex.enc (s.data.toList.take (k + 1))).map byt = (Hex.enc (s.data.toList.take k)).map byt ++ [.int .u8 ((Hex.dig (s[k].toNat / 16)).toNat : Int), .int .u8 ((Hex.dig (s[k].toNat % 16)).toNat : Int)]) := by
        rw [take_snoc s k hlt, Hex.enc_snoc, List.map_append]; rfl
      go_wp2
      go_region_law (refine step_append_lies _ (by rfl) _ _ _ (by rfl) w.heap.size 5 i0 _ 1 1 Tryd.underlying22 hi hz0 hz1 hz2 rfl (by omega) _ (2 * k) _ (by rfl) ((hown.alloc _).drew) ⟨wr.heap.size, 0, none⟩ 2 2 [.int .u8 ((Hex.dig (s[k].toNat / 16)).toNat : Int), .int .u8 ((Hex.dig (s[k].toNat % 16)).toNat : Int)] (by rfl) (by rfl) (World.news_of_block (cs := #[.int .u8 ((Hex.dig (s[k].toNat / 16)).toNat : Int), .int .u8 ((Hex.dig (s[k].toNat % 16)).toNat : Int)]) (t := 5) (fr := (0, 0)) (heap_alloc_new wr _)) (by simp [Value.oneCell']) (by omega) (by unfold maxLen; omega) (by omega) (by simp; omega) (wr.heap.size + 1) (by simp) ?_; intro gg cap w2 hown2 hgrow2 hat hlt2)
      all_goals
        have hb3 : Below w.heap.size w w2 := ((hb.alloc hb2 _).drew).grown hgrow2 (by simp; omega) (fun j hj => (hown.lt j hj).1)
        clear hown hgrow2 hat hlt2 h1 h2 h3
        go_wp2
        go_roundw
        case rel => exact ⟨k + 1, by omega, by go_num, by rw [HE.out]; exact hown2, hb3⟩
        case measure => simp [intOf] <;> omega
    · obtain rfl : k = s.size := by omega
      have hall : s.data.toList.take s.size = s.data.toList := List.take_of_length_le (by simp)
      rw [hall] at hown
      clear hall
      have hb2 := hb.size
      obtain ⟨l, hl⟩ : ∃ l, l = Hex.enc s.data.toList := ⟨_, rfl⟩
      rw [← hl] at hown
      have hlen : 2 * s.size = l.length := by rw [hl, Hex.enc_length]; simp
      have HLn := Lib.hid hl
      clear hl
      rw [hlen] at hown
      clear hlen
      rcases hown.2 with ⟨rfl, h0⟩ | ⟨g, cap, cur, rfl, -⟩
      · have e : l = [] := List.eq_nil_of_length_eq_zero h0
        have hcv := run_convert_bytes_nil (P := Tryd.prog) wr 22 5 Tryd.underlying22 Tryd.underlying5 0 0 9 Tryd.underlying9
        clear h0 hown
        have E := Lib.hid e
        clear e
        go_wp2
        go_ret2
        exact ⟨by rw [← HLn.out, E.out]; rfl, hb⟩
      · have hcv := run_convert_bytes_back (P := Tryd.prog) wr 22 9 5 ⟨g, 0, none⟩ cap l Tryd.underlying22 Tryd.underlying5 Tryd.underlying9 (fun j hj => hown.cells (g := g) rfl j _ (by simp [byt, hj]))
        clear hown
        go_wp2
        go_ret2
        exact ⟨by rw [← HLn.out]; rfl, hb⟩

end Go.Proofs.YtopkdkehkdhmgabDoor
