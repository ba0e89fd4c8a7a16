/- What the model's EncodeHex returns. -/
import Derived.Test.YtjdmagackoddaaaHexImpl
import Derived.Test.YtjdmagackoddaaaFigure
namespace Go.Proofs.Ytjdmagackoddaaa
open Go.RowKit

theorem fig_hex (x : Int) (n : Nat) (hn : (n : Int) = x) (h : n < 16) (w : World) :
    Calls Try.prog 9 #[.int .i64 x] w fun e w' => e = .returned (.int .u8 ((Hex.dig n).toNat : Int)) ∧ w = w' := by
  by_cases h9 : n < 10
  · have e : ((Hex.dig n).toNat : Int) = 48 + x := by unfold Hex.dig; rw [if_pos h9]; simp only [UInt8.toNat_ofNat']; omega
    rw [e]
    exact fig_low x (by omega) (by omega) w
  · have e : ((Hex.dig n).toNat : Int) = 87 + x := by unfold Hex.dig; rw [if_neg h9]; simp only [UInt8.toNat_ofNat']; omega
    rw [e]
    exact fig_high x (by omega) (by omega) w

theorem quo16_fin : ∀ b : Fin 256, ((b.val / 16 : Nat) : Int) = IntKind.i64.wrap ((IntKind.i64.wrap (b.val : Int)).tdiv 16) := by decide +kernel
theorem rem16_fin : ∀ b : Fin 256, ((b.val % 16 : Nat) : Int) = (IntKind.i64.wrap (b.val : Int)).tmod 16 := by decide +kernel
theorem quo16 (c : UInt8) : ((c.toNat / 16 : Nat) : Int) = IntKind.i64.wrap ((IntKind.i64.wrap (c.toNat : Int)).tdiv 16) := quo16_fin ⟨c.toNat, c.toNat_lt⟩
theorem rem16 (c : UInt8) : ((c.toNat % 16 : Nat) : Int) = (IntKind.i64.wrap (c.toNat : Int)).tmod 16 := rem16_fin ⟨c.toNat, c.toNat_lt⟩

set_option maxHeartbeats 2000000 in
theorem senc_any (s : ByteArray) (hsz : s.size ≤ 20000) (w : World) :
    Calls Try.prog 5 #[.string s] w fun e w' => e = .returned (.tuple #[.string ⟨(Hex.enc s.data.toList).toArray⟩, .bool true]) ∧ Below w.heap.size w w' := by
  obtain ⟨i0, hi, hz0, hz1, hz2⟩ := info_parts infoByte
  have hd : decide ((20000 : Int) < (s.size : Int)) = false := decide_eq_false (by omega)
  go_enter Try.func5, Try.ntmps5
  go_wp2
  go_loopw [4, 5] (fun out i wr => ∃ k : Nat, k ≤ s.size ∧ i = .int .i64 k ∧ wr.ownsRow w.heap.size 5 1 out (2 * k) ((Hex.enc (s.data.toList.take k)).map byt) ∧ Below w.heap.size w wr)
    (fun _ i _ => s.size - (intOf i).toNat)
  case atStart => exact ⟨0, Nat.zero_le _, rfl, ⟨by simp [Hex.enc], .inr ⟨w.heap.size, 0, _, rfl, Nat.le_refl _, heap_alloc_new w _, Nat.le_refl _, by decide, rfl, by simp [Hex.enc]⟩⟩, (Below.refl _ _).alloc (Nat.le_refl _) _⟩
  case round =>
    obtain ⟨k, hk, rfl, hown, hb⟩ := hrel
    by_cases hlt : k < s.size
    · have hb2 := hb.size
      have HE : Hid ((Hex.enc (s.data.toList.take (k + 1))).map byt = (Hex.enc (s.data.toList.take k)).map byt ++ [.int .u8 ((Hex.dig (s[k].toNat / 16)).toNat : Int), .int .u8 ((Hex.dig (s[k].toNat % 16)).toNat : Int)]) := by
        rw [take_snoc s k hlt, Hex.enc_snoc, List.map_append]; rfl
      have HQ := Lib.hid (quo16 s[k])
      have HR := Lib.hid (rem16 s[k])
      have hq16 : s[k].toNat / 16 < 16 := by have := s[k].toNat_lt; omega
      have tok1 : True := trivial
      have hr16 : s[k].toNat % 16 < 16 := by omega
      go_wp2
      go_region_law (first | (go_simp; go_at_call 9; have _t := tok1; refine (fig_hex _ (s[k].toNat / 16) HQ.out hq16 _).mono ?_; rintro e w' ⟨rfl, rfl⟩; clear tok1) | (go_simp; go_at_call 9; refine (fig_hex _ (s[k].toNat % 16) HR.out hr16 _).mono ?_; rintro e w' ⟨rfl, rfl⟩) | (refine step_append_lies _ (by rfl) _ _ _ (by rfl) w.heap.size 5 i0 _ 1 1 Try.underlying25 hi hz0 hz1 hz2 rfl (by omega) _ (2 * k) _ (by rfl) ((hown.alloc _).drew) ⟨wr.heap.size, 0, none⟩ 2 2 [.int .u8 ((Hex.dig (s[k].toNat / 16)).toNat : Int), .int .u8 ((Hex.dig (s[k].toNat % 16)).toNat : Int)] (by rfl) (by rfl) (World.news_of_block (cs := #[.int .u8 ((Hex.dig (s[k].toNat / 16)).toNat : Int), .int .u8 ((Hex.dig (s[k].toNat % 16)).toNat : Int)]) (t := 5) (fr := (0, 0)) (heap_alloc_new wr _)) (by simp [Value.oneCell']) (by omega) (by unfold maxLen; omega) (by omega) (by simp; omega) (wr.heap.size + 1) (by simp) ?_; intro gg cap w2 hown2 hgrow2 hat hlt2))
      all_goals
        have hb3 : Below w.heap.size w w2 := ((hb.alloc hb2 _).drew).grown hgrow2 (by simp; omega) (fun j hj => (hown.lt j hj).1)
        clear hown hgrow2 hat hlt2
        go_wp2
        go_roundw
        case rel => exact ⟨k + 1, by omega, by go_num, by rw [HE.out]; exact hown2, hb3⟩
        case measure => simp [intOf] <;> omega
    · obtain rfl : k = s.size := by omega
      have hall : s.data.toList.take s.size = s.data.toList := List.take_of_length_le (by simp)
      rw [hall] at hown
      clear hall
      have hb2 := hb.size
      obtain ⟨l, hl⟩ : ∃ l, l = Hex.enc s.data.toList := ⟨_, rfl⟩
      rw [← hl] at hown
      have hlen : 2 * s.size = l.length := by rw [hl, Hex.enc_length]; simp
      have HLn := Lib.hid hl
      clear hl
      rw [hlen] at hown
      clear hlen
      rcases hown.2 with ⟨rfl, h0⟩ | ⟨g, cap, cur, rfl, -⟩
      · have e : l = [] := List.eq_nil_of_length_eq_zero h0
        have hcv := run_convert_bytes_nil (P := Try.prog) wr 25 5 Try.underlying25 Try.underlying5 0 0 9 Try.underlying9
        clear h0 hown
        have E := Lib.hid e
        clear e
        go_wp2
        go_ret2
        exact ⟨by rw [← HLn.out, E.out]; rfl, hb⟩
      · have hcv := run_convert_bytes_back (P := Try.prog) wr 25 9 5 ⟨g, 0, none⟩ cap l Try.underlying25 Try.underlying5 Try.underlying9 (fun j hj => hown.cells (g := g) rfl j _ (by simp [byt, hj]))
        clear hown
        go_wp2
        go_ret2
        exact ⟨by rw [← HLn.out]; rfl, hb⟩

end Go.Proofs.Ytjdmagackoddaaa
