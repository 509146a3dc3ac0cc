/- Rows of the call's own of K cells an element, and the sort's words on rows: from one to the other. -/
import Derived.Test.YtbjpkklonjlmiaaAQ15
import Derived.Test.YtbjpkklonjlmiaaP15B
import Derived.Shelf.SlSortCmp.KitK
import Derived.Shelf.GgSortFunc.RowK
import Derived.Lib.OwnBridge
namespace Go.Proofs.Ytbjpkklonjlmiaa
set_option linter.unusedVariables false
set_option maxRecDepth 1000000
set_option linter.unusedSimpArgs false
open Go.RowKit Go.Sort

theorem row_holds {w : World} {base e K g n cap : Nat} {cs : List Value} (h : w.ownsRow base e K (.slice (some ⟨g, 0, none⟩) n cap) n cs) : Holds id w g 0 cs.toArray := by
  rcases h.2 with ⟨e0, _⟩ | ⟨g', cap', cur, e0, hb, hg, hn, hm, hs, ht⟩
  · cases e0
  · injection e0 with e1 _ e3
    injection e1 with e1
    injection e1 with e1
    subst e1; subst e3
    have hl := h.1
    intro j hj
    have hj' : j < n * K := by simpa [hl] using hj
    refine ⟨?_, by simp [World.frozen?, hg]⟩
    have e1 : (cur.toList.take (n * K))[j]? = cs[j]? := by rw [ht]
    rw [List.getElem?_take, if_pos hj', Array.getElem?_toList] at e1
    simp only [World.cell?, hg, Nat.zero_add]
    simp only [Option.isSome_none, Bool.false_eq_true, if_false]
    rw [e1]
    simp [getElem!_pos, show j < cs.length by omega]

theorem row_put {w : World} {base e K g n cap : Nat} {cs ts : List Value} (h : w.ownsRow base e K (.slice (some ⟨g, 0, none⟩) n cap) n cs) (hl : ts.length = n * K) (q : Nat) (os : Array Obj) :
    (grow (putRow id (Sort.ahead w q) g 0 ts.toArray) os).ownsRow base e K (.slice (some ⟨g, 0, none⟩) n cap) n ts := by
  rcases h.2 with ⟨e0, _⟩ | ⟨g', cap', cur, e0, hb, hg, hn, hm, hs, ht⟩
  · cases e0
  · injection e0 with e1 _ e3
    injection e1 with e1
    injection e1 with e1
    subst e1; subst e3
    have hgl : g < w.heap.size := (Array.getElem?_eq_some_iff.1 hg).1
    have hle : n * K ≤ cap * K := Nat.mul_le_mul_right K hn
    refine ⟨hl, .inr ⟨g, cap, putCells id 0 ts.toArray cur, rfl, hb, ?_, hn, hm, by simpa [putCells] using hs, ?_⟩⟩
    · rw [heap_grow_old _ _ (by simpa using hgl)]
      simp [putRow, mapBlock, Sort.ahead, Array.getElem?_modify, hg, onCells]
    · apply List.ext_getElem?
      intro j
      rw [List.getElem?_take, Array.getElem?_toList]
      by_cases hj : j < n * K
      · have hjc : j < cur.size := by omega
        simp only [if_pos hj, putCells, Array.getElem?_mapIdx, Array.getElem?_eq_getElem hjc, Option.map_some]
        rw [if_pos (by simp; omega), List.getElem?_eq_getElem (by omega)]
        simp [getElem!_pos, show j < ts.length by omega]
      · simp only [if_neg hj]
        rw [List.getElem?_eq_none (by omega)]

theorem put_grown (w : World) (g q : Nat) (F : Array Value) (os : Array Obj) : w.grownBy (grow (putRow id (Sort.ahead w q) g 0 F) os) (some g) := by
  refine ⟨rfl, rfl, rfl, by simp, fun k hk hne => ?_⟩
  rw [heap_grow_old _ _ (by simpa using hk)]
  have : g ≠ k := fun e => hne (by rw [e])
  simp [putRow, mapBlock, Sort.ahead, Array.getElem?_modify, this]

/-- A row of structs of three ints, flat. -/
def enc3 (x : Int × Int × Int) : List Value := [.int .i64 x.1, .int .i64 x.2.1, .int .i64 x.2.2]

theorem flat3 (cells : List (Int × Int × Int) → List Value) (hc : ∀ p l, cells (p :: l) = .int .i64 p.1 :: .int .i64 p.2.1 :: .int .i64 p.2.2 :: cells l) (h0 : cells [] = []) (d : Array (Int × Int × Int)) : flatK enc3 3 d = (cells d.toList).toArray := by
  have hlen : ∀ l : List (Int × Int × Int), (cells l).length = l.length * 3 := by
    intro l
    induction l with
    | nil => rw [h0]; rfl
    | cons p l ih => rw [hc]; simp only [List.length_cons, ih]; omega
  have hget : ∀ (l : List (Int × Int × Int)) (t : Nat), t < l.length * 3 → (cells l)[t]? = some ((enc3 (l.getD (t / 3) (0, 0, 0)))[t % 3]!) := by
    intro l
    induction l with
    | nil => intro t h; simp at h
    | cons p l ih =>
      intro t h
      rw [hc]
      match t, h with
      | 0, _ => rfl
      | 1, _ => rfl
      | 2, _ => rfl
      | t + 3, h =>
        have := ih t (by simp at h; omega)
        rw [show (t + 3) / 3 = t / 3 + 1 by omega, show (t + 3) % 3 = t % 3 by omega]
        simpa using this
  apply ext_get!
  · rw [size_flatK]
    have := hlen d.toList
    simpa using this.symm
  · intro t ht
    rw [size_flatK] at ht
    rw [get_flatK _ _ _ _ ht]
    have h1 := hget d.toList t (by simpa using ht)
    have h2 : (cells d.toList).toArray[t]! = (enc3 (d.toList.getD (t / 3) (0, 0, 0)))[t % 3]! := by
      have hl : t < (cells d.toList).length := by rw [hlen]; simpa using ht
      rw [List.getElem?_eq_getElem hl] at h1
      have h3 := Option.some.inj h1
      simp [getElem!_pos, hl, h3]
    rw [h2]
    have hd : t / 3 < d.size := by omega
    simp [hd, List.getD]

end Go.Proofs.Ytbjpkklonjlmiaa
