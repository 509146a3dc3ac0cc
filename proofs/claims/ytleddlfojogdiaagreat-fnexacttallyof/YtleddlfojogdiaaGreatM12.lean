/- Chapter 12: a map from ints to how often a thing was said: what it tells, as a function. -/
import Derived.Test.YtleddlfojogdiaaGreatP12
import Derived.Maps.RangeWalk
import Derived.Lib.SlKeysI
namespace Go.Proofs.YtleddlfojogdiaaGreat
set_option linter.unusedVariables false
set_option maxRecDepth 1000000
set_option linter.unusedSimpArgs false
open Go.RowKit Go.Maps

abbrev Te := Int → Option (Int × Int)

def tD (p : Int × Int) : DataW Unit := .agg [.lit (.int .i64 p.1), .lit (.int .i64 p.2)]

theorem tD_inj {p q : Int × Int} (h : tD p = tD q) : p = q := by
  obtain ⟨a, b⟩ := p
  obtain ⟨c, d⟩ := q
  simp [tD] at h
  rw [h.1, h.2]

/-- How an element reads: two ints. -/
def RT (v : Value) : Option (DataW Unit × List MemPlace) :=
  match v with
  | .agg ⟨[.int .i64 a, .int .i64 b]⟩ => some (tD (a, b), [])
  | _ => none

theorem RT_mk (a b : Int) : RT (.agg #[.int .i64 a, .int .i64 b]) = some (tD (a, b), []) := rfl

theorem RT_inv {v : Value} {y : DataW Unit × List MemPlace} (h : RT v = some y) : ∃ p : Int × Int, v = .agg #[.int .i64 p.1, .int .i64 p.2] ∧ y = (tD p, []) := by
  unfold RT at h
  split at h
  · rename_i a b
    cases h
    exact ⟨(a, b), rfl, rfl⟩
  · cases h

def Tells (D : DataW Unit) (g : Te) : Prop := IsMap D ∧ ∀ x : Int, (∀ z, D.atKey (.int .i64 x) z = (match g x with | none => z | some p => tD p)) ∧ has D (.int .i64 x) = (g x).isSome

theorem tells_put {D : DataW Unit} {g : Te} (h : Tells D g) (x : Int) (p : Int × Int) : Tells (D.put (.int .i64 x) (tD p)) (fun y => if y = x then some p else g y) := by
  refine ⟨h.1.put _ _, fun y => ?_⟩
  by_cases e : y = x
  · subst e
    simp only [if_true]
    have hkl : WideAt.IsKeyLit (Lit.int .i64 y) := trivial
    exact ⟨fun z => atKey_put_same h.1 hkl _ z, by rw [has_put_same h.1 hkl]; rfl⟩
  · simp only [if_neg e]
    have hne : Lit.int .i64 y ≠ Lit.int .i64 x := by intro q; injection q with _ q; exact e q
    exact ⟨fun z => by rw [atKey_put_other hne]; exact (h.2 y).1 z, by rw [has_put_other hne]; exact (h.2 y).2⟩

theorem tells_del {D : DataW Unit} {g : Te} (h : Tells D g) (x : Int) : Tells (D.del (.int .i64 x)) (fun y => if y = x then none else g y) := by
  refine ⟨h.1.del _, fun y => ?_⟩
  by_cases e : y = x
  · subst e
    simp only [if_true]
    exact ⟨fun z => atKey_del_same z, has_del_same⟩
  · simp only [if_neg e]
    have hne : Lit.int .i64 y ≠ Lit.int .i64 x := by intro q; injection q with _ q; exact e q
    exact ⟨fun z => by rw [atKey_del_other hne]; exact (h.2 y).1 z, by rw [has_del_other hne]; exact (h.2 y).2⟩

/-- Block b is a map of at most n entries that tells g. -/
def MT (w : World) (b n : Nat) (g : Te) : Prop := ∃ D : DataW Unit, w.ownsMap Tryz.prog 3 RT b n D ∧ Tells D g

theorem Tryz.keyedInt : Keyed Tryz.prog 3 := int_keyed Tryz.underlying3

theorem Tryz.zeroTe (w : World) : (zeroValue 119).run Tryz.prog w = .ok (.agg #[.int .i64 0, .int .i64 0]) w := by rfl

theorem mt_new (w : World) : MT (w.alloc (.map #[] 0)) w.heap.size 0 (fun _ => none) :=
  ⟨.map [], World.ownsMap_made _ _ _ _, isMap_empty, fun _ => ⟨fun _ => rfl, rfl⟩⟩

theorem MT.lt {w : World} {b n : Nat} {g : Te} (h : MT w b n g) : b < w.heap.size := by
  obtain ⟨D, h, _⟩ := h
  exact h.lt

theorem MT.kept {w w' : World} {b n : Nat} {g : Te} {row : Option Nat} (h : MT w b n g) (hg : w.grownBy w' row) (hne : some b ≠ row) : MT w' b n g := by
  obtain ⟨D, h, k⟩ := h
  exact ⟨D, h.kept hg hne, k⟩

theorem MT.later {w w' : World} {b n : Nat} {g : Te} (h : MT w b n g) (hb : Below w.heap.size w w') : MT w' b n g := by
  obtain ⟨D, ⟨es, clock, hB, F, hs, hD⟩, k⟩ := h
  exact ⟨D, ⟨es, clock, (hb.block b (Array.getElem?_eq_some_iff.1 hB).1).trans hB, F, hs, hD⟩, k⟩

theorem MT.mono {w : World} {b n n' : Nat} {g : Te} (h : MT w b n g) (hn : n ≤ n') : MT w b n' g := by
  obtain ⟨D, h, k⟩ := h
  exact ⟨D, h.mono hn, k⟩

theorem MT.look {w : World} {b n : Nat} {g : Te} (h : MT w b n g) {x : Int} (hx : (Lit.int .i64 x).wf = true) {p : Int × Int} (hp : (g x).getD (0, 0) = p) :
    (Instr.lookup 108 (.map (some b)) (.int .i64 x) false).run Tryz.prog w = .ok (.agg #[.int .i64 p.1, .int .i64 p.2]) w := by
  obtain ⟨D, h, k⟩ := h
  obtain ⟨v, ps, hrun, hR⟩ := h.lookup Tryz.keyedInt Tryz.underlying108 (Tryz.zeroTe w) (RT_mk 0 0) (keyOf_int_mk Tryz.underlying3 hx)
  obtain ⟨q, rfl, hy⟩ := RT_inv hR
  rw [hrun]
  have e1 : D.atKey (.int .i64 x) (tD (0, 0)) = tD q := by injection hy
  rw [(k.2 x).1] at e1
  have e2 : q = p := by
    cases hgx : g x with
    | none => rw [hgx] at e1 hp; exact (tD_inj e1).symm.trans hp
    | some r => rw [hgx] at e1 hp; exact (tD_inj e1).symm.trans hp
  rw [e2]

theorem MT.put {w : World} {b n : Nat} {g : Te} (h : MT w b n g) (hn : n ≤ 100) {x : Int} (hx : (Lit.int .i64 x).wf = true) (p : Int × Int) :
    ∃ w', (Instr.mapUpdate 108 (.map (some b)) (.int .i64 x) (.agg #[.int .i64 p.1, .int .i64 p.2])).run Tryz.prog w = .ok () w' ∧ MT w' b (n + 1) (fun y => if y = x then some p else g y) ∧ w.grownBy w' (some b) := by
  obtain ⟨D, h, k⟩ := h
  obtain ⟨w', hrun, ho, hg⟩ := h.update Tryz.keyedInt Tryz.underlying108 (by unfold maxLen; omega) (keyOf_int_mk Tryz.underlying3 hx) (RT_mk p.1 p.2)
  exact ⟨w', hrun, ⟨_, ho, tells_put k x p⟩, hg⟩

/-- What is left where those that said both are struck. -/
def cleanT (g : Te) : Te := fun x => match g x with | some p => if 0 < p.1 ∧ 0 < p.2 then none else some p | none => none

def keysOk (g : Te) : Prop := ∀ x, (g x).isSome = true → 0 ≤ x ∧ x ≤ 6

theorem wf_small {x : Int} (h0 : 0 ≤ x) (h1 : x ≤ 6) : (Lit.int .i64 x).wf = true := by
  simp [Lit.wf, IntKind.min, IntKind.max, IntKind.signed, IntKind.bits]
  omega

/-- The keys that are there, rising. -/
theorem keys_sorted {w : World} {b n : Nat} {D : DataW Unit} {g : Te} (h : w.ownsMap Tryz.prog 3 RT b n D) (k : Tells D g) (hk : keysOk g) {ss : List Int} (hp : ss.Perm (intKeys D)) :
    ss.mergeSort (fun x y => decide (x ≤ y)) = ([0, 1, 2, 3, 4, 5, 6] : List Int).filter fun x => (g x).isSome := by
  obtain ⟨es, rfl, hpw, hkl⟩ := h.entries Tryz.keyedInt
  have hint : ∀ p ∈ es, ∃ x, p.1 = Lit.int .i64 x := by
    intro p hp'
    obtain ⟨es2, clock, hB, F, hs, hD⟩ := h
    injection hD with hD
    rw [hD] at hp'
    obtain ⟨x, hx, rfl⟩ := List.mem_map.1 (mem_sorted.1 hp')
    obtain ⟨y, hy⟩ := F.reads x hx
    rw [Go.WideElems.rg_of hy]
    obtain ⟨z, _, hz, _⟩ := Maps.keyOf_i64 Tryz.underlying3 (Go.WideElems.rd_key hy)
    exact ⟨z, hz⟩
  have hL : (([0, 1, 2, 3, 4, 5, 6] : List Int).filter fun x => (g x).isSome).Nodup := List.Pairwise.filter _ (by decide)
  have hm : ∀ x, x ∈ (([0, 1, 2, 3, 4, 5, 6] : List Int).filter fun x => (g x).isSome) ↔ has (.map es) (.int .i64 x) = true := by
    intro x
    rw [(k.2 x).2, List.mem_filter]
    constructor
    · exact fun h => h.2
    · intro h
      obtain ⟨h0, h1⟩ := hk x h
      refine ⟨?_, h⟩
      obtain ⟨m, rfl⟩ : ∃ m : Nat, x = m := ⟨x.toNat, by omega⟩
      have : m = 0 ∨ m = 1 ∨ m = 2 ∨ m = 3 ∨ m = 4 ∨ m = 5 ∨ m = 6 := by omega
      rcases this with rfl | rfl | rfl | rfl | rfl | rfl | rfl <;> decide
  have hq : (([0, 1, 2, 3, 4, 5, 6] : List Int).filter fun x => (g x).isSome).Perm (intKeys (.map es)) := perm_intKeys hpw hint hL hm
  rw [mergeSort_of_perm_i (hp.trans hq.symm)]
  exact List.mergeSort_of_pairwise (List.Pairwise.filter _ (by decide))

end Go.Proofs.YtleddlfojogdiaaGreat
