/- Chapter 5: PolyThrough as the specification makes it: plain facts, number by number. -/
import Derived.Test.YtamppekadobagaaPJ5
namespace Go.Proofs.Ytamppekadobagaa
set_option linter.unusedVariables false
set_option linter.unusedSimpArgs false
open Go.RowKit

/-- A product by (o less x), j numbers of it done. -/
def nxt (o : F) (p : List F) (j : Nat) : List F := (List.range (p.length + 1)).map fun t => (if t < j then p.getD t 0 * o else 0) + (if 0 < t ∧ t ≤ j then 0 - p.getD (t - 1) 0 else 0)
theorem nxt_length (o : F) (p : List F) (j : Nat) : (nxt o p j).length = p.length + 1 := by simp [nxt]
theorem nxt_getD (o : F) (p : List F) (j t : Nat) (h : t < p.length + 1) : (nxt o p j).getD t 0 = (if t < j then p.getD t 0 * o else 0) + (if 0 < t ∧ t ≤ j then 0 - p.getD (t - 1) 0 else 0) := by
  simp [nxt, List.getD, h]
theorem nxt_zero (o : F) (p : List F) : nxt o p 0 = List.replicate (p.length + 1) 0 := by
  refine List.ext_getElem (by simp [nxt]) fun t h1 h2 => ?_
  have := nxt_getD o p 0 t (by simpa [nxt] using h1)
  simp only [List.getD, List.getElem?_eq_getElem h1, Option.getD_some] at this
  rw [this, List.getElem_replicate, if_neg (by omega), if_neg (by omega)]
  rfl
theorem listF_ext {a b : List F} {n : Nat} (ha : a.length = n) (hb : b.length = n) (h : ∀ t, t < n → a.getD t 0 = b.getD t 0) : a = b := by
  refine List.ext_getElem (by omega) fun t h1 h2 => ?_
  have := h t (by omega)
  simpa only [List.getD, List.getElem?_eq_getElem h1, List.getElem?_eq_getElem h2, Option.getD_some] using this
theorem setF_getD (a : List F) (i : Nat) (x : F) (t : Nat) (ht : t < a.length) : (a.set i x).getD t 0 = if t = i then x else a.getD t 0 := by
  by_cases e : t = i
  · subst e; simp [List.getD, ht]
  · rw [if_neg e]; simp [List.getD, List.getElem?_set, show i ≠ t by omega]
theorem nxt_step (o : F) (p : List F) {j : Nat} (h : j < p.length) : ((nxt o p j).set j ((nxt o p j).getD j 0 + p.getD j 0 * o)).set (j + 1) ((nxt o p j).getD (j + 1) 0 - p.getD j 0) = nxt o p (j + 1) := by
  refine listF_ext (n := p.length + 1) (by simp [nxt]) (nxt_length _ _ _) fun t ht => ?_
  rw [setF_getD _ _ _ _ (by rw [List.length_set, nxt_length]; exact ht), setF_getD _ _ _ _ (by rw [nxt_length]; exact ht), nxt_getD o p (j + 1) t ht]
  by_cases e1 : t = j + 1
  · subst e1
    rw [if_pos rfl, nxt_getD o p j (j + 1) ht, if_neg (by omega), if_neg (by omega), if_neg (by omega), if_pos (by omega), Nat.add_sub_cancel]
    grind -lia
  · rw [if_neg e1]
    by_cases e2 : t = j
    · subst e2
      rw [if_pos rfl, nxt_getD o p t t ht]
      by_cases e3 : 0 < t
      · rw [if_neg (by omega), if_pos (by omega), if_pos (by omega), if_pos (by omega)]; grind -lia
      · rw [if_neg (by omega), if_neg (by omega), if_pos (by omega), if_neg (by omega)]; grind -lia
    · rw [if_neg e2, nxt_getD o p j t ht]
      by_cases e3 : t < j
      · by_cases e4 : 0 < t
        · rw [if_pos e3, if_pos (by omega), if_pos (by omega), if_pos (by omega)]
        · rw [if_pos e3, if_neg (by omega), if_pos (by omega), if_neg (by omega)]
      · rw [if_neg e3, if_neg (by omega), if_neg (by omega), if_neg (by omega)]
theorem nxt_all (o : F) (p : List F) : nxt o p p.length = mulF o p := by
  refine listF_ext (n := p.length + 1) (nxt_length _ _ _) (mulF_length _ _) fun t ht => ?_
  rw [nxt_getD o p p.length t ht]
  have hm : (mulF o p).getD t 0 = ((p.map (· * o)) ++ [0]).getD t 0 + ((0 : F) :: p.map (fun c => 0 - c)).getD t 0 := by
    have h1 : t < ((p.map (· * o)) ++ [0]).length := by simp; omega
    have h2 : t < ((0 : F) :: p.map (fun c => 0 - c)).length := by simp; omega
    simp only [mulF, List.getD, List.getElem?_zipWith, List.getElem?_eq_getElem h1, List.getElem?_eq_getElem h2, Option.getD_some]
  rw [hm]
  have ha : ((p.map (· * o)) ++ [0]).getD t 0 = if t < p.length then p.getD t 0 * o else 0 := by
    by_cases e : t < p.length
    · rw [if_pos e]; simp [List.getD, List.getElem?_append, e]
    · have : t = p.length := by omega
      subst this
      rw [if_neg (by omega)]; simp [List.getD, List.getElem?_append]
  have hb : ((0 : F) :: p.map (fun c => 0 - c)).getD t 0 = if 0 < t ∧ t ≤ p.length then 0 - p.getD (t - 1) 0 else 0 := by
    match t with
    | 0 => rw [if_neg (by omega)]; rfl
    | t + 1 =>
      rw [if_pos (by omega), Nat.add_sub_cancel]
      have : t < p.length := by omega
      simp [List.getD, this]
  rw [ha, hb]
/-- j numbers of q added. -/
def accF (a q : List F) (j : Nat) : List F := (List.range a.length).map fun t => a.getD t 0 + (if t < j then q.getD t 0 else 0)
theorem accF_length (a q : List F) (j : Nat) : (accF a q j).length = a.length := by simp [accF]
theorem accF_getD (a q : List F) (j t : Nat) (h : t < a.length) : (accF a q j).getD t 0 = a.getD t 0 + (if t < j then q.getD t 0 else 0) := by
  simp [accF, List.getD, h]
theorem accF_zero (a q : List F) : accF a q 0 = a := by
  refine listF_ext (n := a.length) (accF_length _ _ _) rfl fun t ht => ?_
  rw [accF_getD a q 0 t ht, if_neg (by omega)]; grind -lia
theorem accF_step (a q : List F) {j : Nat} (h : j < a.length) : (accF a q j).set j (a.getD j 0 + q.getD j 0) = accF a q (j + 1) := by
  refine listF_ext (n := a.length) (by rw [List.length_set, accF_length]) (accF_length _ _ _) fun t ht => ?_
  rw [setF_getD _ _ _ _ (by rw [accF_length]; exact ht), accF_getD a q (j + 1) t ht]
  by_cases e : t = j
  · subst e; rw [if_pos rfl, if_pos (by omega)]
  · rw [if_neg e, accF_getD a q j t ht]
    by_cases e2 : t < j
    · rw [if_pos e2, if_pos (by omega)]
    · rw [if_neg e2, if_neg (by omega)]
theorem accF_at (a q : List F) {j : Nat} (h : j < a.length) : (accF a q j).getD j 0 = a.getD j 0 := by
  rw [accF_getD a q j j h, if_neg (by omega)]; grind -lia
theorem accF_all (a q : List F) (h : a.length = q.length) : accF a q a.length = addF a q := by
  refine listF_ext (n := a.length) (accF_length _ _ _) (addF_length _ _ h) fun t ht => ?_
  rw [accF_getD a q a.length t ht, if_pos ht]
  have hq : t < q.length := by omega
  simp only [addF, List.getD, List.getElem?_zipWith, List.getElem?_eq_getElem ht, List.getElem?_eq_getElem hq, Option.getD_some]
theorem toF_fma (a c o : F) : toF (vI a + vI c * vI o) = a + c * o := vI_inj (by
  rw [vI_toF, ← vI_add, ← vI_mul]; omega)
theorem vIs_set (ps : List F) (i : Nat) (x : F) : (vIs ps).set i (vI x) = vIs (ps.set i x) := by simp [vIs, List.map_set]
theorem vIs_zeros (n : Nat) : vIs (List.replicate n 0) = List.replicate n 0 := by simp [vIs, vI_zero]
theorem basF_take {pl : F} {fs : List F} {k : Nat} (h : k < fs.length) : basF pl (fs.take (k + 1)) [1] = if fs.getD k 0 = pl then basF pl (fs.take k) [1] else mulF (fs.getD k 0) (basF pl (fs.take k) [1]) := by
  rw [takeF_succ h, basF, List.foldl_append]; rfl
theorem lagF_take {xs : List F} {fl : List (F × F)} {k : Nat} {out : List F} (h : k < fl.length) : lagF xs (fl.take (k + 1)) out = lagStep xs (lagF xs (fl.take k) out) (fl.getD k (0, 0)) := by
  rw [takeP_succ h, lagF, List.foldl_append]; rfl
/-- What the specification stores in out, as it is reckoned. -/
theorem acc_wrap (a c y d : F) : (IntKind.i64.wrap (vI a + IntKind.i64.wrap ((IntKind.i64.wrap (vI c * vI y)).tmod 1499 * vI d))).tmod 1499 = vI (a + c * y * d) := by
  have h1 := pr_lt (vI_mem c) (vI_mem y)
  have e1 : IntKind.i64.wrap (vI c * vI y) = vI c * vI y := by rw [IntKind.wrap_i64]; omega
  have e2 : (vI c * vI y).tmod 1499 = vI (c * y) := by rw [Int.tmod_eq_emod_of_nonneg h1.1, vI_mul]
  rw [e1, e2]
  have h2 := pr_lt (vI_mem (c * y)) (vI_mem d)
  have e3 : IntKind.i64.wrap (vI (c * y) * vI d) = vI (c * y) * vI d := by rw [IntKind.wrap_i64]; omega
  rw [e3]
  have h3 := vI_mem a
  have e4 : IntKind.i64.wrap (vI a + vI (c * y) * vI d) = vI a + vI (c * y) * vI d := by rw [IntKind.wrap_i64]; omega
  rw [e4, Int.tmod_eq_emod_of_nonneg (by omega), vI_fma]

end Go.Proofs.Ytamppekadobagaa
