/- The range over the exits of a belt, as a statement. -/
import Derived.Test.YtobcgidakbbhpabRunExits
namespace Go.Proofs.Ytobcgidakbbhpab
open Go.RowKit Go.Shelf
set_option linter.unusedVariables false
attribute [local go_sem] Oper.semAt_some

/-- Between two rounds: the list's variable holds the exits so far; the result's variable is as it was. -/
def RI (w : World) (E0 : Nat) (l : List Int) (W : World) : Prop :=
  ∃ v k, l.length = k * 2 ∧ Boxed W (E0 + 1) 29 v ∧ W.ownsRow E0 42 2 v k (l.map (.int .i64)) ∧ W.heap[w.heap.size + 1]? = some (.cells #[.int .i64 0, .int .i64 0, .bool false, .slice none 0 0] 28 (0, 0)) ∧ Below w.heap.size w W ∧ (∃ cs t, 42 ≠ t ∧ W.heap[E0 + 2]? = some (.cells cs t (0, 0))) ∧ (∃ cs t, 42 ≠ t ∧ W.heap[E0 + 3]? = some (.cells cs t (0, 0)))
theorem owns_far {W W' : World} {E0 : Nat} {e : TypeId} {size k : Nat} {v : Value} {xs : List Value} (h : W.ownsRow E0 e size v k xs) (hk : ∀ j, E0 ≤ j → j < W.heap.size → (∃ o : Obj, W.heap[j]? = some o ∧ o.isCells = true) → W'.heap[j]? = W.heap[j]?) : W'.ownsRow E0 e size v k xs := by
  obtain ⟨h1, h2⟩ := h
  refine ⟨h1, ?_⟩
  rcases h2 with h2 | ⟨g, cap, cur, a, b, c, d⟩
  · exact .inl h2
  · refine .inr ⟨g, cap, cur, a, b, ?_, d⟩
    rw [hk g b (Array.getElem?_eq_some_iff.1 c).1 ⟨_, c, rfl⟩]
    exact c
/-- What is not the cells of a block at or beyond E0 may turn. -/
theorem RI.keep {w : World} {E0 : Nat} {l : List Int} {W W' : World} (h : RI w E0 l W) (hE : w.heap.size + 1 < E0) (hos : W'.os = W.os) (ht : W'.tape = W.tape) (ho : W'.output = W.output) (hs : W.heap.size ≤ W'.heap.size) (hlow : ∀ k, k ≤ w.heap.size + 1 → W'.heap[k]? = W.heap[k]?) (hk : ∀ j, E0 ≤ j → j < W.heap.size → (∃ o : Obj, W.heap[j]? = some o ∧ o.isCells = true) → W'.heap[j]? = W.heap[j]?) : RI w E0 l W' := by
  obtain ⟨v, k, h1, h2, h3, h4, h5, ⟨cs, t, ht1, h6⟩, ⟨cs', t', ht2, h7⟩⟩ := h
  exact ⟨v, k, h1, (hk _ (by omega) h2.lt ⟨_, h2, rfl⟩).trans h2, owns_far h3 hk, (hlow _ (Nat.le_refl _)).trans h4, ⟨hos.trans h5.os, ht.trans h5.tape, ho.trans h5.output, Nat.le_trans h5.size hs, fun k hk => (hlow k (by omega)).trans (h5.block k hk)⟩, ⟨cs, t, ht1, (hk _ (by omega) (Array.getElem?_eq_some_iff.1 h6).1 ⟨_, h6, rfl⟩).trans h6⟩, ⟨cs', t', ht2, (hk _ (by omega) (Array.getElem?_eq_some_iff.1 h7).1 ⟨_, h7, rfl⟩).trans h7⟩⟩
theorem RI.put {w : World} {E0 : Nat} {l : List Int} {W : World} (h : RI w E0 l W) (hE : w.heap.size + 1 < E0) {b : Nat} {o : Obj} (o' : Obj) (hb : W.heap[b]? = some o) (ho : o.isCells = false) (hw : w.heap.size + 1 < b) : RI w E0 l (W.putObj b o') := by
  have hg := grownBy_putObj' W b o'
  refine h.keep hE hg.os hg.tape hg.output hg.size (fun k hk => World.putObj_heap_other (by omega)) (fun j h1 h2 h3 => World.putObj_heap_other ?_)
  rintro rfl
  obtain ⟨o2, e, hc⟩ := h3
  rw [hb] at e
  injection e with e
  rw [← e, ho] at hc
  cases hc
theorem RI.alloc {w : World} {E0 : Nat} {l : List Int} {W : World} (h : RI w E0 l W) (hE : w.heap.size + 1 < E0) (o : Obj) : RI w E0 l (W.alloc o) := by
  have h4 : w.heap.size + 1 < W.heap.size := by obtain ⟨v, k, h1, h2, h3, h4, -⟩ := h; exact (Array.getElem?_eq_some_iff.1 h4).1
  exact h.keep hE rfl rfl rfl (by simp) (fun k hk => Below.heap_alloc _ _ _ (by omega)) (fun j _ h2 _ => Below.heap_alloc _ _ _ h2)

theorem run_range {ps : Array Tmp} {assign body : Code} {a : Act} {Q : Exit → Act → World → Prop} {W4 : World} {S n : Nat} {L G : Int} {H : Bool} {z : Nat → Int} {w : World} {gw w2s E0 : Nat} {gop : Operand} {a1 : Int → Int → Nat → Act}
    (hg : a.eval gop = .func (.func 120) #[] #[.pointer (some ⟨E0 + 3, 0, none⟩), .pointer (some ⟨E0 + 2, 0, none⟩)]) (hps : ps.size = 1)
    (hs : W4.heap.size = E0 + 4) (hgw : w.heap.size + 2 ≤ gw ∧ gw < w2s) (hw2 : w2s ≤ E0) (hS : S ≤ 2000) (hok : OkP L G n z)
    (c1 : W4.cell? ⟨E0 + 3, 0, none⟩ = some (.int .i64 (S : Int))) (c2 : W4.cell? ⟨E0 + 2, 0, none⟩ = some (.pointer (some ⟨gw, 0, none⟩)))
    (hR : RunAt W4 gw (w.heap.size + 2) w2s L G H n z) (h0 : RI w E0 [] W4)
    (hassign : ∀ (l : Nat) (x s : Int) (W : World) (K : Act → World → Prop), K (a1 x s W.heap.size) (W.alloc (.cells #[.int .i64 x, .int .i64 s] 42)) →
      assign.wpIn (Fence.wide.inRound l) 7 Try.prog (Exit.then K (fun _ _ _ => False)) { tmps := (ps.zip #[Value.agg #[.int .i64 x, .int .i64 s]]).foldl (fun t (p, v) => t.setIfInBounds p v) a.tmps, defers := [] } W)
    (hbody : ∀ (l : Nat) (lst : List Int) (x s : Int) (W : World) (Bx : Nat), lst.length ≤ 80 → RI w E0 lst W → E0 + 4 ≤ Bx → W.heap[Bx]? = some (.cells #[.int .i64 x, .int .i64 s] 42 (0, 0)) →
      body.wpIn (Fence.wide.inRound l) 7 Try.prog (fun e _ W' => e = .normal ∧ RI w E0 (lst ++ [x, s]) W' ∧ KeepsOthers W W' ∧ KpB (E0 + 4) E0 W W') (a1 x s Bx) W)
    (hdone : ∀ W', RI w E0 (ru L G H n z S).l W' → RunAt W' gw (w.heap.size + 2) w2s L G H (ru L G H n z S).n (ru L G H n z S).z → W'.heap[E0 + 4]? = some (.deferred (some [])) → Q .normal { a with defers := { target := .collected (E0 + 4), args := #[] } :: a.defers } W') :
    (Code.rangeFunc gop ps assign body).wpIn Fence.wide 9 Try.prog Q a W4 := by
  have hE : w.heap.size + 1 < E0 := by omega
  have eg : ∀ args w, (callFunc 120 args).run Try.prog w = .ok (.enter 120 args) w := enters_of Try.func120 (by kernel_rfl) rfl
  refine wpIn_rangeFunc ?_
  intro fn hfn
  obtain ⟨rec, hrec⟩ : ∃ rec : LoopState → Option Code → Loop, rec = fun st pe => { state := st, pending := pe, fn, tmps := a.tmps, params := ps, assign, body, defers := W4.heap.size } := ⟨_, rfl⟩
  obtain ⟨W1, hW1⟩ : ∃ W1, (W4.alloc (.deferred (some []))).alloc (.loop (rec .ready none)) = W1 := ⟨_, rfl⟩
  have hL1 : W1.heap[E0 + 5]? = some (.loop (rec .ready none)) := by rw [← hW1]; exact heap_new _ _ _ (by simp; omega)
  have hK1 : W1.heap[E0 + 4]? = some (.deferred (some [])) := by rw [← hW1]; exact (heap_old _ _ _ (by simp; omega)).trans (heap_new _ _ _ hs.symm)
  have hb1 : Below W4.heap.size W4 W1 := by rw [← hW1]; exact ((Below.refl _ _).alloc (Nat.le_refl _) _).alloc (by simp) _
  have hI1 : RI w E0 [] W1 := by rw [← hW1]; exact (h0.alloc hE _).alloc hE _
  have hs1 : E0 + 4 ≤ W1.heap.size := by have := hb1.size; omega
  refine ⟨W4.heap.size + 1, [{ target := .collected W4.heap.size, args := #[] }], W1, { target := .fn (.func 120) #[.pointer (some ⟨E0 + 3, 0, none⟩), .pointer (some ⟨E0 + 2, 0, none⟩)], args := #[.func (.yield (W4.heap.size + 1)) #[] #[]] }, W1, 120,
    #[.func (.yield (W4.heap.size + 1)) #[] #[]] ++ #[.pointer (some ⟨E0 + 3, 0, none⟩), .pointer (some ⟨E0 + 2, 0, none⟩)], W1, ?_, ?_, fun _ _ => trivial, ?_, fun _ => by omega, ?_⟩
  · rw [← hW1, hrec]; exact run_enterLoop_outer _ _ _ _ _
  · simp only [resolve, hg]
    simp [go_sem]
  · simp [invoke, go_sem, eg]
  · rw [hs]
    refine (exits1_in 8 S hS L G H n z hok gw (w.heap.size + 2) w2s (E0 + 4) E0 (E0 + 3) (E0 + 2) (E0 + 5) hgw (by omega) hw2 (by omega) (by omega)
      (fun l W => RI w E0 l W ∧ W.heap[E0 + 5]? = some (.loop (rec .ready none)) ∧ W.heap[E0 + 4]? = some (.deferred (some [])))
      ?_ ?_ W1 hs1 ((hb1.cell (p := ⟨E0 + 3, 0, none⟩) (by show E0 + 3 < _; omega)).trans c1) ((hb1.cell (p := ⟨E0 + 2, 0, none⟩) (by show E0 + 2 < _; omega)).trans c2) (hR.below hgw.2 hb1 (by omega)) ⟨hI1, hL1, hK1⟩).mono ?_
    · rintro l W W' ⟨h1, h2, h3⟩ hN hT
      have hl2 := (Array.getElem?_eq_some_iff.1 h2).1
      exact ⟨h1.keep hE hT.os hT.tape hT.output hT.size (fun k hk => hT.block k (by omega) (.inl (by omega))) (fun j h4 h5 _ => hT.block j h5 (.inr (by omega))), (hT.block _ hl2 (.inr (by omega))).trans h2, (hT.block _ (by omega) (.inr (by omega))).trans h3⟩
    · -- one round
      rintro lst x s W ⟨hi, hl, hk⟩ hlen hN
      have hlt : E0 + 5 < W.heap.size := (Array.getElem?_eq_some_iff.1 hl).1
      have hy := run_yield (P := Try.prog) (args := #[Value.agg #[.int .i64 x, .int .i64 s]]) hl (by rw [hrec]; exact hps.symm)
      rw [hrec] at hy
      refine ⟨fn, _, assign, body, hy, roundIn_of_wpIn hfn (hassign _ x s W _ ?_)⟩
      have hlA : (W.alloc (.cells #[.int .i64 x, .int .i64 s] 42)).heap[E0 + 5]? = some (.loop (rec .ready none)) := (heap_old _ _ _ hlt).trans hl
      refine ⟨_, run_beginRound hlA (by rw [hrec]), ?_⟩
      have hkA : (W.alloc (.cells #[.int .i64 x, .int .i64 s] 42)).heap[E0 + 4]? = some (.deferred (some [])) := (heap_old _ _ _ (by omega)).trans hk
      have hxA : (W.alloc (.cells #[.int .i64 x, .int .i64 s] 42)).heap[W.heap.size]? = some (.cells #[.int .i64 x, .int .i64 s] 42 (0, 0)) := heap_new _ _ _ rfl
      have hiA := hi.alloc hE (.cells #[.int .i64 x, .int .i64 s] 42)
      have hsA : (W.alloc (.cells #[.int .i64 x, .int .i64 s] 42)).heap.size = W.heap.size + 1 := by simp
      have hbA : ∀ k, k < W.heap.size → (W.alloc (.cells #[.int .i64 x, .int .i64 s] 42)).heap[k]? = W.heap[k]? := fun k hk => heap_old _ _ _ hk
      generalize (W.alloc (.cells #[.int .i64 x, .int .i64 s] 42)) = WA at hlA hkA hxA hiA hsA hbA ⊢
      have hl2 : (WA.putObj (E0 + 5) (.loop { rec .ready none with state := .busy })).heap[E0 + 5]? = some (.loop { rec .ready none with state := .busy }) := World.putObj_heap_same (by omega)
      have hk2 : (WA.putObj (E0 + 5) (.loop { rec .ready none with state := .busy })).heap[E0 + 4]? = some (.deferred (some [])) := (World.putObj_heap_other (by omega)).trans hkA
      refine wpIn_mono (hbody _ lst x s _ W.heap.size hlen (hiA.put hE _ hlA rfl (by omega)) (by omega) ((World.putObj_heap_other (by omega)).trans hxA)) ?_
      rintro e a3 W3 ⟨rfl, hi3, hk3, hp3⟩
      have hl3 := hk3.same _ _ hl2 rfl
      have hend := run_endRound (P := Try.prog) none hl3
      have hsz3 := hp3.size
      have hl3' := (Array.getElem?_eq_some_iff.1 hl3).1
      refine ⟨_, _, hend, rfl, ⟨hi3.put hE _ hl3 rfl (by omega), ?_, (World.putObj_heap_other (by omega)).trans (hk3.same _ _ hk2 rfl)⟩, ⟨?_, fun k hk hr => ?_⟩⟩
      · rw [hrec]; exact World.putObj_heap_same (by omega)
      · have : (WA.putObj (E0 + 5) (.loop { rec .ready none with state := .busy })).heap.size = WA.heap.size := by simp [World.putObj]
        simp [World.putObj] at hsz3 ⊢
        omega
      · exact (World.putObj_heap_other (by omega)).trans ((hp3.block k hk hr).trans ((World.putObj_heap_other (by omega)).trans (hbA k (by omega))))
    · rintro e W' ⟨⟨v, rfl⟩, hR', ⟨hi', hl', hk'⟩, hN'⟩
      refine ⟨none, W'.putObj (E0 + 5) (.loop { rec .ready none with state := .exhausted }), ?_, ?_⟩
      · have := run_endLoop (P := Try.prog) hl' (by rw [hrec]; intro e; cases e)
        rw [hrec] at this ⊢
        exact this
      · have hlt' := (Array.getElem?_eq_some_iff.1 hl').1
        exact hdone _ (hi'.put hE _ hl' rfl (by omega)) (hR'.keep hgw.2 (fun k hk => World.putObj_heap_other (by omega))) ((World.putObj_heap_other (by omega)).trans hk')

end Go.Proofs.Ytobcgidakbbhpab
