/- Screening in plain words: a policy is n numbers z, a screen the numbers L, S, V: its level, the time since when, its verdict. -/
import Derived.ProofKit
namespace Go.Proofs.Ytkdlhapbbnggoab

def PoP (n : Nat) (z : Nat → Int) : Prop := n = 3 ∧ ∀ i, i < n → 1 ≤ z i ∧ z i ≤ 5000
open Classical in
noncomputable def poB (n : Nat) (z : Nat → Int) : Bool := decide (PoP n z)
theorem poB_yes {n : Nat} {z : Nat → Int} (h : PoP n z) : poB n z = true := by simp [poB, h]
theorem poB_no {n : Nat} {z : Nat → Int} (h : ¬ PoP n z) : poB n z = false := by simp [poB, h]
theorem poB_iff {n : Nat} {z : Nat → Int} : poB n z = true ↔ PoP n z := by simp [poB]
theorem poB_not {n : Nat} {z : Nat → Int} : poB n z = false ↔ ¬ PoP n z := by simp [poB]

def ScP (L S V : Int) : Prop := (1 ≤ L ∧ L ≤ 4) ∧ (0 ≤ S ∧ S ≤ 100000) ∧ (V = 0 ∨ V = 1 ∨ V = 2 ∧ L = 4)
open Classical in
noncomputable def scB (L S V : Int) : Bool := decide (ScP L S V)
theorem scB_yes {L S V : Int} (h : ScP L S V) : scB L S V = true := by simp [scB, h]
theorem scB_no {L S V : Int} (h : ¬ ScP L S V) : scB L S V = false := by simp [scB, h]
theorem scB_iff {L S V : Int} : scB L S V = true ↔ ScP L S V := by simp [scB]
theorem scB_not {L S V : Int} : scB L S V = false ↔ ¬ ScP L S V := by simp [scB]

/-- The wait of a level. -/
def wt (z : Nat → Int) (L : Int) : Int := z (L - 1).toNat
/-- The wait is over. -/
def ovr (z : Nat → Int) (now L S : Int) : Prop := L < 4 ∧ wt z L < now - S
instance (z : Nat → Int) (now L S : Int) : Decidable (ovr z now L S) := by unfold ovr; exact inferInstance
/-- Level and time behind at most f waits. -/
def elp (z : Nat → Int) (now : Int) : Nat → Int → Int → Int × Int
  | 0, L, S => (L, S)
  | f + 1, L, S => if ovr z now L S then elp z now f (L + 1) (S + wt z L) else (L, S)
theorem elp_stop {z : Nat → Int} {now L S : Int} (h : ¬ ovr z now L S) : ∀ f, elp z now f L S = (L, S)
  | 0 => rfl
  | _ + 1 => if_neg h
theorem elp_go {z : Nat → Int} {now L S : Int} (h : ovr z now L S) (f : Nat) : elp z now (f + 1) L S = elp z now f (L + 1) (S + wt z L) := if_pos h
open Classical in
/-- What Elapse returns of a screen: level and time. -/
noncomputable def eL (n : Nat) (z : Nat → Int) (L S V now : Int) : Int := if PoP n z ∧ ScP L S V ∧ (0 ≤ now ∧ now ≤ 100000) ∧ V = 0 then (elp z now 3 L S).1 else L
open Classical in
noncomputable def eS (n : Nat) (z : Nat → Int) (L S V now : Int) : Int := if PoP n z ∧ ScP L S V ∧ (0 ≤ now ∧ now ≤ 100000) ∧ V = 0 then (elp z now 3 L S).2 else S
theorem eLS_no {n : Nat} {z : Nat → Int} {L S V now : Int} (h : ¬ (PoP n z ∧ ScP L S V ∧ (0 ≤ now ∧ now ≤ 100000) ∧ V = 0)) : eL n z L S V now = L ∧ eS n z L S V now = S := ⟨if_neg h, if_neg h⟩
theorem eLS_yes {n : Nat} {z : Nat → Int} {L S V now : Int} (h : PoP n z ∧ ScP L S V ∧ (0 ≤ now ∧ now ≤ 100000) ∧ V = 0) {L' S' : Int} (he : elp z now 3 L S = (L', S')) : eL n z L S V now = L' ∧ eS n z L S V now = S' := by
  unfold eL eS
  rw [if_pos h, if_pos h, he]
  exact ⟨rfl, rfl⟩
/-- What holds of level and time on the way. -/
def onW (z : Nat → Int) (now L S L' S' : Int) : Prop := ∃ f : Nat, 4 - L' ≤ (f : Int) ∧ elp z now 3 L S = elp z now f L' S'
theorem onW_start {z : Nat → Int} {now L S : Int} (h : 1 ≤ L) : onW z now L S L S := ⟨3, by omega, rfl⟩
theorem onW_stop {z : Nat → Int} {now L S L' S' : Int} (h : onW z now L S L' S') (k : ¬ ovr z now L' S') : elp z now 3 L S = (L', S') := by
  obtain ⟨f, -, h⟩ := h
  rw [h, elp_stop k]
theorem onW_go {z : Nat → Int} {now L S L' S' : Int} (h : onW z now L S L' S') (k : ovr z now L' S') : onW z now L S (L' + 1) (S' + wt z L') := by
  obtain ⟨f, hf, h⟩ := h
  obtain ⟨g, rfl⟩ : ∃ g, f = g + 1 := ⟨f - 1, by have := k.1; omega⟩
  exact ⟨g, by omega, by rw [h, elp_go k]⟩
theorem onW_full {z : Nat → Int} {now L S L' S' : Int} (h : onW z now L S L' S') (k : L' = 4) : elp z now 3 L S = (L', S') := onW_stop h (fun h => by have := h.1; omega)

/-- Levels only rise, and stay in their range; time only grows, and stays below now. -/
theorem elp_range {z : Nat → Int} (hz : ∀ i, i < 3 → 1 ≤ z i ∧ z i ≤ 5000) {now : Int} : ∀ f (L S : Int), 1 ≤ L → L ≤ 4 →
    L ≤ (elp z now f L S).1 ∧ (elp z now f L S).1 ≤ 4 ∧ S ≤ (elp z now f L S).2 ∧ ((elp z now f L S).2 = S ∨ (elp z now f L S).2 < now)
  | 0, L, S, h1, h2 => ⟨Int.le_refl _, h2, Int.le_refl _, .inl rfl⟩
  | f + 1, L, S, h1, h2 => by
    by_cases h : ovr z now L S
    · rw [elp_go h]
      have hw := hz (L - 1).toNat (by have := h.1; omega)
      obtain ⟨a, b, c, d⟩ := elp_range hz f (L + 1) (S + wt z L) (by omega) (by have := h.1; omega)
      have h3 := h.2
      have hw' : 1 ≤ wt z L := hw.1
      refine ⟨by omega, b, by omega, .inr ?_⟩
      rcases d with d | d <;> omega
    · rw [elp_stop h]
      exact ⟨Int.le_refl _, h2, Int.le_refl _, .inl rfl⟩

/-! The first time at which the level is the last one. -/
def hT (z : Nat → Int) (L S : Int) : Int := S + ((if L ≤ 1 then z 0 else 0) + ((if L ≤ 2 then z 1 else 0) + (if L ≤ 3 then z 2 + 1 else 0)))
theorem hT_iff {z : Nat → Int} (hz : ∀ i, i < 3 → 1 ≤ z i ∧ z i ≤ 5000) {t L S : Int} (h1 : 1 ≤ L) (h2 : L ≤ 4) (ht : S ≤ t) : (elp z t 3 L S).1 = 4 ↔ hT z L S ≤ t := by
  have a0 := hz 0 (by omega)
  have a1 := hz 1 (by omega)
  have a2 := hz 2 (by omega)
  have hL : L = 1 ∨ L = 2 ∨ L = 3 ∨ L = 4 := by omega
  rcases hL with rfl | rfl | rfl | rfl <;>
    simp only [elp, ovr, wt, hT, show ((1 : Int) - 1).toNat = 0 from rfl, show ((1 : Int) + 1 - 1).toNat = 1 from rfl, show ((1 : Int) + 1 + 1 - 1).toNat = 2 from rfl, show ((2 : Int) - 1).toNat = 1 from rfl, show ((2 : Int) + 1 - 1).toNat = 2 from rfl, show ((3 : Int) - 1).toNat = 2 from rfl] <;>
    (repeat' split) <;> simp <;> omega
/-- Whether HandTime tells a time. -/
def HtP (n : Nat) (z : Nat → Int) (L S V : Int) : Prop := PoP n z ∧ ScP L S V ∧ V = 0 ∧ hT z L S ≤ 100000
open Classical in
noncomputable def htB (n : Nat) (z : Nat → Int) (L S V : Int) : Bool := decide (HtP n z L S V)
open Classical in
noncomputable def htI (n : Nat) (z : Nat → Int) (L S V : Int) : Int := if HtP n z L S V then hT z L S else 0
theorem ht_yes {n : Nat} {z : Nat → Int} {L S V : Int} (h : HtP n z L S V) : htI n z L S V = hT z L S ∧ htB n z L S V = true := ⟨if_pos h, by simp [htB, h]⟩
theorem ht_no {n : Nat} {z : Nat → Int} {L S V : Int} (h : ¬ HtP n z L S V) : htI n z L S V = 0 ∧ htB n z L S V = false := ⟨if_neg h, by simp [htB, h]⟩

/-! Decisions: a is the level behind Elapse, b its time. -/
def DeP (n : Nat) (z : Nat → Int) (L S V now d a b : Int) : Prop := PoP n z ∧ ScP L S V ∧ (0 ≤ now ∧ now ≤ 100000) ∧ (0 ≤ d ∧ d ≤ 2) ∧ V = 0 ∧ b ≤ now ∧ ¬ (d = 0 ∧ a = 4)
open Classical in
noncomputable def deB (n : Nat) (z : Nat → Int) (L S V now d : Int) : Bool := decide (DeP n z L S V now d (eL n z L S V now) (eS n z L S V now))
open Classical in
noncomputable def deL (n : Nat) (z : Nat → Int) (L S V now d : Int) : Int := if DeP n z L S V now d (eL n z L S V now) (eS n z L S V now) then (if d = 1 ∨ eL n z L S V now = 4 then eL n z L S V now else eL n z L S V now + 1) else L
open Classical in
noncomputable def deS (n : Nat) (z : Nat → Int) (L S V now d : Int) : Int := if DeP n z L S V now d (eL n z L S V now) (eS n z L S V now) then (if d = 1 ∨ eL n z L S V now = 4 then eS n z L S V now else now) else S
open Classical in
noncomputable def deV (n : Nat) (z : Nat → Int) (L S V now d : Int) : Int := if DeP n z L S V now d (eL n z L S V now) (eS n z L S V now) then (if d = 1 then 1 else if eL n z L S V now = 4 then 2 else 0) else V
theorem de_no {n : Nat} {z : Nat → Int} {L S V now d : Int} (h : ¬ DeP n z L S V now d (eL n z L S V now) (eS n z L S V now)) : deL n z L S V now d = L ∧ deS n z L S V now d = S ∧ deV n z L S V now d = V ∧ deB n z L S V now d = false :=
  ⟨if_neg h, if_neg h, if_neg h, by simp [deB, h]⟩
theorem de_clear {n : Nat} {z : Nat → Int} {L S V now d a b : Int} (ha : eL n z L S V now = a) (hb : eS n z L S V now = b) (h : DeP n z L S V now d a b) (k : d = 1) : deL n z L S V now d = a ∧ deS n z L S V now d = b ∧ deV n z L S V now d = 1 ∧ deB n z L S V now d = true := by
  subst ha hb
  unfold deL deS deV deB
  rw [if_pos h, if_pos h, if_pos h, if_pos (.inl k), if_pos (.inl k), if_pos k]
  exact ⟨rfl, rfl, rfl, by simp [h]⟩
theorem de_alarm {n : Nat} {z : Nat → Int} {L S V now d a b : Int} (ha : eL n z L S V now = a) (hb : eS n z L S V now = b) (h : DeP n z L S V now d a b) (k : d ≠ 1) (k4 : a = 4) : deL n z L S V now d = a ∧ deS n z L S V now d = b ∧ deV n z L S V now d = 2 ∧ deB n z L S V now d = true := by
  subst ha hb
  unfold deL deS deV deB
  rw [if_pos h, if_pos h, if_pos h, if_pos (.inr k4), if_pos (.inr k4), if_neg k, if_pos k4]
  exact ⟨rfl, rfl, rfl, by simp [h]⟩
theorem de_on {n : Nat} {z : Nat → Int} {L S V now d a b : Int} (ha : eL n z L S V now = a) (hb : eS n z L S V now = b) (h : DeP n z L S V now d a b) (k : d ≠ 1) (k4 : a ≠ 4) : deL n z L S V now d = a + 1 ∧ deS n z L S V now d = now ∧ deV n z L S V now d = 0 ∧ deB n z L S V now d = true := by
  subst ha hb
  unfold deL deS deV deB
  rw [if_pos h, if_pos h, if_pos h, if_neg (by rintro (h | h); exact k h; exact k4 h), if_neg (by rintro (h | h); exact k h; exact k4 h), if_neg k, if_neg k4]
  exact ⟨rfl, rfl, rfl, by simp [h]⟩

end Go.Proofs.Ytkdlhapbbnggoab
