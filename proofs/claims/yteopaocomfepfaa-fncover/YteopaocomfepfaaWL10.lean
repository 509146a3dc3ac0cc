/- Walks of frames that were called plainly: where a region sends over a channel or selects, the machine of one goroutine takes the step itself. -/
import Derived.Test.YteopaocomfepfaaX10
import Derived.Conc.LoneSelect
namespace Go.Proofs.Yteopaocomfepfaa
set_option linter.unusedVariables false
set_option maxRecDepth 1000000
set_option linter.unusedSimpArgs false
open Go.RowKit Go.Conc

/-- From here the code comes to an exit of which Q holds, in every frame that was called plainly. -/
def wpL (P : Program) (c : Code) (Q : Exit → Act → World → Prop) (a : Act) (w : World) : Prop :=
  ∀ (f : FuncId) (k : List Item) (cs : List Frame), ∃ e a' w', Q e a' w' ∧ Arrives P (lone ((base f).at a (.code c :: k)) cs w) (base f) k cs e a' w'

section
variable {P : Program} {Q : Exit → Act → World → Prop} {a : Act} {w : World}
theorem wpL_of {c : Code} (h : c.wp P Q a w) : wpL P c Q a w := fun f k cs => h (base f) k cs
theorem wpL_mono {c : Code} {Q' : Exit → Act → World → Prop} (h : wpL P c Q a w) (hq : ∀ e a w, Q e a w → Q' e a w) : wpL P c Q' a w :=
  fun f k cs => let ⟨e, a', w', q, r⟩ := h f k cs; ⟨e, a', w', hq _ _ _ q, r⟩
theorem arrives_code {x : Item} {m : Machine} {b : Frame} {k : List Item} {cs : List Frame} {e : Exit} {a : Act} {w : World} (hx : x.plain = true) (he : e ≠ .normal) (h : Arrives P m b (x :: k) cs e a w) : Arrives P m b k cs e a w :=
  Arrives.pass hx (fun _ _ => Or.inl he) h
theorem wpL_seq {x y : Code} (h : wpL P x (Exit.then (wpL P y Q) Q) a w) : wpL P (Code.seq x y) Q a w := by
  intro f k cs
  obtain ⟨e, a1, w1, hq, har⟩ := h f (.code y :: k) cs
  by_cases he : e = .normal
  · subst he
    obtain ⟨e2, a2, w2, hq2, har2⟩ := hq f k cs
    exact ⟨e2, a2, w2, hq2, Arrives.of_steps (Steps.head step_seq har) har2⟩
  · refine ⟨e, a1, w1, ?_, Arrives.of_steps (Steps.one step_seq) (arrives_code (x := .code y) rfl he har)⟩
    cases e <;> first | exact hq | exact absurd rfl he
theorem wpL_seq_k {x y : Code} (h : ∀ K : Act → World → Prop, (∀ a w, wpL P y Q a w → K a w) → x.wp P (Exit.then K Q) a w) : wpL P (Code.seq x y) Q a w :=
  wpL_seq (wpL_of (h _ fun _ _ h => h))
theorem wpL_cond {c : Operand} {x y : Code} {t : Bool} (hc : a.eval c = .bool t) (h : wpL P (if t then x else y) Q a w) : wpL P (Code.cond c x y) Q a w :=
  fun f k cs => let ⟨e, a', w', q, r⟩ := h f k cs; ⟨e, a', w', q, Arrives.of_steps (Steps.one (step_cond hc)) r⟩
theorem wpL_block {id : Nat} {c : Code} (h : wpL P c (Exit.inBlock id Q) a w) : wpL P (Code.block id c) Q a w := by
  intro f k cs
  obtain ⟨e, a1, w1, hq, har⟩ := h f (.inBlock id :: k) cs
  cases e with
  | normal => exact ⟨.normal, a1, w1, hq, Steps.head step_block (Steps.trans har (Steps.one step_inBlock))⟩
  | exit id' =>
    by_cases hid : id' = id
    · simp only [Exit.inBlock, hid, if_true] at hq
      exact ⟨.normal, a1, w1, hq, Steps.head step_block (har k (by simp [exitTo, hid]))⟩
    · simp only [Exit.inBlock, hid, if_false] at hq
      exact ⟨.exit id', a1, w1, hq, fun k' hk => Steps.head step_block (har k' (by have : (id == id') = false := by simp; exact fun h => hid h.symm
                                                                                   simp [exitTo, this, hk]))⟩
  | goto l => exact ⟨_, a1, w1, hq, fun k' hk => Steps.head step_block (har k' (by simp [gotoIn, hk]))⟩
  | ret => exact ⟨_, a1, w1, hq, Arrives.of_steps (Steps.one step_block) har⟩
  | panic ch => exact ⟨_, a1, w1, hq, Arrives.of_steps (Steps.one step_block) har⟩
  | outgrown => exact ⟨_, a1, w1, hq, Arrives.of_steps (b := base f) (k := k) (cs := cs) (e := .outgrown) (Steps.one step_block) har⟩
/-- A loop: what holds at the head of each round, by a number that goes down. -/
theorem wpL_loop {c : Code} (I : Nat → Act → World → Prop) (n : Nat) (h0 : I n a w)
    (round : ∀ n a w, I n a w → wpL P c (Exit.then (fun a' w' => ∃ m, m < n ∧ I m a' w') Q) a w) : wpL P (Code.loop c) Q a w := by
  intro f k cs
  have key : ∀ n a w, I n a w → ∃ e a' w', Q e a' w' ∧ Arrives P (lone ((base f).at a (.code c :: .inLoop c :: k)) cs w) (base f) k cs e a' w' := by
    intro n
    induction n using Nat.strongRecOn with
    | _ n ih =>
      intro a w hI
      obtain ⟨e, a1, w1, hq, har⟩ := round n a w hI f (.inLoop c :: k) cs
      by_cases he : e = .normal
      · subst he
        obtain ⟨m, hm, hI1⟩ := hq
        obtain ⟨e2, a2, w2, hq2, har2⟩ := ih m hm a1 w1 hI1
        exact ⟨e2, a2, w2, hq2, Arrives.of_steps (Steps.trans har (Steps.one step_inLoop)) har2⟩
      · refine ⟨e, a1, w1, ?_, arrives_code (x := .inLoop c) rfl he har⟩
        cases e <;> first | exact hq | exact absurd rfl he
  obtain ⟨e, a', w', hq, har⟩ := key n a w h0
  exact ⟨e, a', w', hq, Arrives.of_steps (Steps.one step_loop) har⟩
/-- A region, from steps of the machine of one. -/
theorem wpL_steps {c : Code} {a' : Act} {w' : World} (hs : ∀ f k cs, LoneTo P (fun g v => g = G ((base f).at a' k) cs ∧ v = w') (G ((base f).at a (.code c :: k)) cs) w) (hq : Q .normal a' w') : wpL P c Q a w := by
  intro f k cs
  obtain ⟨g, v, st, rfl, rfl⟩ := hs f k cs
  exact ⟨.normal, a', _, hq, st⟩
end

theorem calls_of_wpL {P : Program} {f : FuncId} {fn : Func} {c : Code} {args : Array Value} {w : World} {R : Ending → World → Prop} (hf : P.funcs[f]? = some fn) (hb : fn.body = some c)
    (h : wpL P c (bodyPost P fn R) { tmps := args ++ Array.replicate (fn.ntmps - args.size) undef, defers := [] } w) : Calls P f args w R := by
  intro cs
  have hen : Frame.enter P f args .normal = (base f).at { tmps := args ++ Array.replicate (fn.ntmps - args.size) undef, defers := [] } [.code c] := by
    simp [Frame.enter, Frame.at, hf, hb, base]
  obtain ⟨e, a', w', hq, har⟩ := h f [] cs
  rw [← hen] at har
  cases e with
  | normal =>
    obtain ⟨hd, v, hr, hR⟩ := hq
    exact ⟨.returned v, w', _, hR, Steps.trans har (Steps.one step_end), rfl, rfl, hd, rfl, fn, hf, hr⟩
  | ret =>
    obtain ⟨hd, v, hr, hR⟩ := hq
    obtain ⟨todo, hs⟩ := har
    exact ⟨.returned v, w', _, hR, hs, rfl, rfl, hd, rfl, fn, hf, hr⟩
  | panic chain =>
    obtain ⟨hd, hR⟩ := hq
    obtain ⟨todo, hs⟩ := har
    exact ⟨.panicked chain, w', _, hR, hs, rfl, rfl, hd, fn, hf⟩
  | exit id => exact hq.elim
  | goto l => exact hq.elim
  | outgrown => exact ⟨.outgrown, w', base f, hq, har.resolve_left (by simp [base]), rfl, trivial⟩

/-- A channel's block. -/
def Chan (w : World) (g cap : Nat) (buf : List Value) : Prop := ∃ s r, w.heap[g]? = some (.chan cap buf.toArray false s r false)
theorem Chan.lt {w : World} {g cap : Nat} {buf : List Value} (h : Chan w g cap buf) : g < w.heap.size := by
  obtain ⟨s, r, h⟩ := h; exact (Array.getElem?_eq_some_iff.1 h).1
theorem Chan.later {w w' : World} {g cap : Nat} {buf : List Value} (h : Chan w g cap buf) (hb : Below w.heap.size w w') : Chan w' g cap buf := by
  have hl := h.lt
  obtain ⟨s, r, h⟩ := h; exact ⟨s, r, by rw [hb.block g hl]; exact h⟩
theorem Chan.grown {w w' : World} {g cap : Nat} {buf : List Value} {row : Option Nat} (h : Chan w g cap buf) (hg : w.grownBy w' row) (hne : some g ≠ row) : Chan w' g cap buf := by
  have hl := h.lt
  obtain ⟨s, r, h⟩ := h; exact ⟨s, r, by rw [hg.block g hl hne]; exact h⟩
theorem grown_setChan (w : World) (c cap : Nat) (buf : Array Value) (cl : Bool) (s r : Nat) (tm : Bool) : w.grownBy (w.setChan c cap buf cl s r tm) (some c) :=
  ⟨rfl, rfl, rfl, by simp [World.setChan], fun q hq hne => by simp only [World.setChan]; rw [Array.getElem?_setIfInBounds_ne (fun e => hne (by rw [e]))]⟩

end Go.Proofs.Yteopaocomfepfaa
