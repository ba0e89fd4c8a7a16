/- What the model's ParseUint returns. -/
import Derived.Test.YtjdmagackoddaaaDoorFormatIntSpec
import Derived.Test.YtjdmagackoddaaaDoorParseUintImpl
import Derived.BigQuiet
import Derived.Deep.QuietTactic
namespace Go.Proofs.YtjdmagackoddaaaDoor
open Go.RowKit

theorem num_of {l : List UInt8} (h : isNum l) : (numOf l ≤ 1000000000 ∧ Lib.decDigits (numOf l) = l) ∧ (∀ c ∈ l, isD c) ∧ l.length ≤ 10 := by
  obtain ⟨N, hN, rfl⟩ := h
  obtain ⟨h1, h2, -⟩ := dec_facts N
  exact ⟨⟨by omega, by rw [h2]⟩, h1, dec_len 9 N (by omega)⟩
/-- What ParseUint returns for the bytes l: a number, and whether there is one. -/
def PU (l : List UInt8) (v : Value) : Prop := (isNum l ∧ v = .tuple #[.int .i64 (numOf l), .bool true]) ∨ (¬ isNum l ∧ v = .tuple #[.int .i64 0, .bool false])
theorem PU_one {l : List UInt8} {v v' : Value} (h : PU l v) (h' : PU l v') : v = v' := by
  rcases h with ⟨a, rfl⟩ | ⟨a, rfl⟩ <;> rcases h' with ⟨b, rfl⟩ | ⟨b, rfl⟩
  · rfl
  · exact absurd a b
  · exact absurd b a
  · rfl

theorem take_snoc (s : ByteArray) (k : Nat) (h : k < s.size) : s.data.toList.take (k + 1) = s.data.toList.take k ++ [s[k]] := by
  rw [List.take_succ_eq_append_getElem (by simpa using h)]; rfl
theorem mem_at (s : ByteArray) (k : Nat) (h : k < s.size) : s[k] ∈ s.data.toList := by
  have : s[k] = s.data.toList[k]'(by simpa using h) := rfl
  rw [this]
  exact List.getElem_mem _

set_option maxHeartbeats 1000000 in
theorem spu_any (s : ByteArray) (hsz : s.size ≤ 1048576) (w : World) (v0 : Value) (hv0 : PU s.data.toList v0) :
    Calls Tryd.prog 20 #[.string s] w fun e w' => e = .returned v0 ∧ Below w.heap.size w w' := by
  have hlen : s.data.toList.length = s.size := by simp
  by_cases hbig : 10 < s.size
  · have e : v0 = .tuple #[.int .i64 0, .bool false] := by
      rcases hv0 with ⟨a, -⟩ | ⟨-, e⟩
      · have := (num_of a).2.2; omega
      · exact e
    subst e
    clear hlen hv0
    go_enter Tryd.func20, Tryd.ntmps20
    go_wp2
    go_ret2
    exact ⟨rfl, Below.refl _ _⟩
  · have hs10 : s.size ≤ 10 := by omega
    have HL := Lib.hid hlen
    have HV := Lib.hid hv0
    clear hbig hlen hv0
    go_enter Tryd.func20, Tryd.ntmps20
    go_wp2
    go_loop [4, 5] (fun n i => ∃ k v : Nat, k ≤ s.size ∧ i = .int .i64 k ∧ n = .int .i64 v ∧ Hid (v = numOf (s.data.toList.take k) ∧ ∀ c ∈ s.data.toList.take k, isD c)) (fun _ i => s.size - (intOf i).toNat)
    case atStart => exact ⟨0, 0, Nat.zero_le _, rfl, rfl, Lib.hid ⟨rfl, by simp⟩⟩
    case round =>
      obtain ⟨k, v, hk, rfl, rfl, H⟩ := hrel
      have hv : v < 10 ^ k := by
        have := numOf_lt _ H.out.2
        rw [← H.out.1, List.length_take, HL.out, Nat.min_eq_left hk] at this
        exact this
      by_cases hlt : k < s.size
      · have hv9 : v ≤ 999999999 := by
          have : 10 ^ k ≤ 10 ^ 9 := Nat.pow_le_pow_right (by decide) (by omega)
          omega
        clear hv
        by_cases hd : 48 ≤ s[k].toNat
        · by_cases hd2 : s[k].toNat ≤ 57
          · have HN : Hid (10 * v + (s[k].toNat - 48) = numOf (s.data.toList.take (k + 1)) ∧ ∀ c ∈ s.data.toList.take (k + 1), isD c) := by
              rw [take_snoc s k hlt]
              refine ⟨by rw [numOf_snoc, ← H.out.1], fun c hc => ?_⟩
              rcases List.mem_append.1 hc with hc | hc
              · exact H.out.2 c hc
              · obtain rfl : c = s[k] := by simpa using hc
                exact ⟨hd, hd2⟩
            have hd' : ¬ ((s[k].toNat : Int) < 48) := by omega
            have hd2' : ¬ ((57 : Int) < (s[k].toNat : Int)) := by omega
            go_wp2
            go_round
            case rel => exact ⟨k + 1, 10 * v + (s[k].toNat - 48), by omega, by go_num, by go_num, HN⟩
            case measure => simp [intOf] <;> omega
          · have hd2' : (57 : Int) < (s[k].toNat : Int) := by omega
            have hd' : ¬ ((s[k].toNat : Int) < 48) := by omega
            have e : v0 = .tuple #[.int .i64 0, .bool false] := by
              rcases HV.out with ⟨a, -⟩ | ⟨-, e⟩
              · have := ((num_of a).2.1 _ (mem_at s k hlt)).2; omega
              · exact e
            subst e
            go_wp2
            go_ret2
            exact ⟨rfl, Below.refl _ _⟩
        · have hd' : (s[k].toNat : Int) < 48 := by omega
          have e : v0 = .tuple #[.int .i64 0, .bool false] := by
            rcases HV.out with ⟨a, -⟩ | ⟨-, e⟩
            · have := ((num_of a).2.1 _ (mem_at s k hlt)).1; omega
            · exact e
          subst e
          go_wp2
          go_ret2
          exact ⟨rfl, Below.refl _ _⟩
      · obtain rfl : k = s.size := by omega
        have hall : s.data.toList.take s.size = s.data.toList := List.take_of_length_le (by rw [HL.out]; exact Nat.le_refl _)
        have H1 := H.out
        rw [hall] at H1
        obtain ⟨hv1, hd1⟩ := H1
        have hv10 : v ≤ 9999999999 := by
          have : 10 ^ s.size ≤ 10 ^ 10 := Nat.pow_le_pow_right (by decide) hs10
          omega
        clear hv hall
        by_cases hm : v ≤ 1000000000
        · have hin := itoa_nat v
          by_cases heq : Lib.decDigits v = s.data.toList
          · have e : v0 = .tuple #[.int .i64 v, .bool true] := by
              rcases HV.out with ⟨a, e⟩ | ⟨a, -⟩
              · rw [hv1]; exact e
              · exact absurd ⟨v, hm, heq.symm⟩ a
            subst e
            have HE := Lib.hid (hin.trans heq)
            clear hin heq hv1 hd1
            go_wp2_with fail
            refine (sfint_any v (by omega) (by omega) _).mono ?_
            rw [HE.out]
            rintro e w1 ⟨rfl, hb1⟩
            go_wp2
            go_ret2
            exact ⟨rfl, hb1⟩
          · have e : v0 = .tuple #[.int .i64 0, .bool false] := by
              rcases HV.out with ⟨a, -⟩ | ⟨-, e⟩
              · exact absurd (by rw [hv1]; exact (num_of a).1.2) heq
              · exact e
            subst e
            obtain ⟨l, hl⟩ : ∃ l, l = Lib.decDigits v := ⟨_, rfl⟩
            rw [← hl] at hin heq
            have hcmp : (l == s.toList) = false := by rw [bytes_toList]; exact beq_eq_false_iff_ne.2 heq
            have HE := Lib.hid hin
            clear hin heq hv1 hd1 hl
            go_wp2_with fail
            refine (sfint_any v (by omega) (by omega) _).mono ?_
            rw [HE.out]
            rintro e w1 ⟨rfl, hb1⟩
            go_wp2
            go_ret2
            exact ⟨rfl, hb1⟩
        · have e : v0 = .tuple #[.int .i64 0, .bool false] := by
            rcases HV.out with ⟨a, -⟩ | ⟨-, e⟩
            · exact absurd (by rw [hv1]; exact (num_of a).1.1) hm
            · exact e
          subst e
          clear hv1 hd1
          have hm' : (1000000000 : Int) < v := by omega
          go_wp2
          go_ret2
          exact ⟨rfl, Below.refl _ _⟩

theorem ipu_any (s : ByteArray) (hsz : s.size ≤ 1048576) (w : World) (htab : Lib.TabIs Tryd.prog w "internal/strconv.uint64pow10" .u64 Lib.pow10Tab)
    (tp : TypeId) (p : Value) (hrng : w.var? Tryd.prog "strconv.ErrRange" = some #[.iface tp p]) (tq : TypeId) (q : Value) (hsyn : w.var? Tryd.prog "strconv.ErrSyntax" = some #[.iface tq q]) (v0 : Value) (hv0 : PU s.data.toList v0) :
    Calls Tryd.prog 21 #[.string s] w fun e w' => e = .returned v0 ∧ Below w.heap.size w w' := by
  rcases hv0 with ⟨⟨N, hN, hl⟩, rfl⟩ | ⟨a, rfl⟩
  · have e : numOf s.data.toList = N := by rw [hl]; exact (dec_facts N).2.1
    rw [e]
    exact pu_ok s N hN hl w htab
  · exact pu_no s hsz a w htab tp p hrng tq q hsyn
theorem PU_some (l : List UInt8) : ∃ v, PU l v := by
  by_cases h : isNum l
  · exact ⟨_, .inl ⟨h, rfl⟩⟩
  · exact ⟨_, .inr ⟨h, rfl⟩⟩

end Go.Proofs.YtjdmagackoddaaaDoor
