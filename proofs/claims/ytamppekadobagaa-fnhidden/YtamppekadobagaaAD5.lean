/- Chapter 5: AddParts, both sides. -/
import Derived.Test.YtamppekadobagaaPU5
import Derived.Deep.DrawnRows
import Derived.Test.YtamppekadobagaaSP5
namespace Go.Proofs.Ytamppekadobagaa
set_option linter.unusedVariables false
set_option linter.unusedSimpArgs false
open Go.RowKit

/-- Parts added. -/
def addP (fl gl : List (F × F)) : List (F × F) := List.zipWith (fun p q => (p.1, p.2 + q.2)) fl gl
theorem addP_length {fl gl : List (F × F)} (h : fl.length = gl.length) : (addP fl gl).length = fl.length := by simp [addP, h]
theorem addP_take {fl gl : List (F × F)} {k : Nat} (h : fl.length = gl.length) (hk : k < fl.length) : (addP fl gl).take (k + 1) = (addP fl gl).take k ++ [((fl.getD k (0, 0)).1, (fl.getD k (0, 0)).2 + (gl.getD k (0, 0)).2)] := by
  rw [List.take_succ_eq_append_getElem (by rw [addP_length h]; exact hk)]
  simp [addP, List.getD, hk, show k < gl.length by omega]
theorem pIs_take (fl : List (F × F)) (k : Nat) : pIs (fl.take k) = (pIs fl).take k := by simp [pIs]
theorem pIs_app (fl : List (F × F)) (p : F × F) : pIs (fl ++ [p]) = pIs fl ++ [pI p] := by simp [pIs]
theorem row_keep {X V w2 : World} {u : Value} (hg : X.grownBy w2 u.ownBlock) {g : Nat} (hX : X.heap[g]? = V.heap[g]?) (hlt : g < X.heap.size) (hne : ∀ k, u.ownBlock = some k → k < g) (i : Nat) : w2.cell? ⟨g, i, none⟩ = V.cell? ⟨g, i, none⟩ := by
  have hne' : some g ≠ u.ownBlock := fun e => by have := hne _ e.symm; omega
  exact World.cell?_of_block (a := ⟨g, i, none⟩) ((hg.block g hlt hne').trans hX)
theorem heap_ad (V : World) (o : Obj) {g : Nat} (h : g < V.heap.size) : (V.alloc o).drew.heap[g]? = V.heap[g]? ∧ g < (V.alloc o).drew.heap.size :=
  ⟨Below.heap_alloc _ _ _ h, by show g < (V.alloc o).heap.size; simp; omega⟩
theorem cell_new2d (w : World) (u v : Value) (t : TypeId) : ∀ j x, [u, v][j]? = some x → (w.alloc (.cells #[u, v] t)).drew.cell? ((⟨w.heap.size, 0, none⟩ : Addr).add j) = some x := cell_new2 w u v t
theorem sum_wrap {y q : Int} (h1 : 0 ≤ y ∧ y < 1499) (h2 : 0 ≤ q ∧ q < 1499) : (IntKind.i64.wrap (y + q)).tmod 1499 = (y + q) % 1499 := by
  have e : IntKind.i64.wrap (y + q) = y + q := by rw [IntKind.wrap_i64]; omega
  rw [e]; exact Int.tmod_eq_emod_of_nonneg (by omega)

set_option maxHeartbeats 2000000 in
theorem equalInt_at (b o n c b' o' d : Nat) (xs ys : List Int) (w : World) (hx : xs.length = n) (hy : ys.length = n) (hn : n ≤ 17592186044416)
    (hcx : ∀ j, j < n → w.cell? ⟨b, o + j, none⟩ = some (.int .i64 (xs.getD j 0))) (hcy : ∀ j, j < n → w.cell? ⟨b', o' + j, none⟩ = some (.int .i64 (ys.getD j 0))) :
    Calls Try.prog 65 #[.slice (some ⟨b, o, none⟩) n c, .slice (some ⟨b', o', none⟩) n d] w fun e w' => e = .returned (.bool (decide (xs = ys))) ∧ Below w.heap.size w w' := by
  have HX : Hid (xs.length = n) := hx
  have HY : Hid (ys.length = n) := hy
  clear hx hy
  have hnn : ((n : Int) != (n : Int)) = false := by simp
  go_enter Try.func65, Try.ntmps65
  go_wp2
  go_loopw [13] (fun i wr => ∃ k : Nat, k ≤ n ∧ i = .int .i64 k ∧ xs.take k = ys.take k ∧ Below w.heap.size w wr ∧ (∀ j, j < n → wr.cell? ⟨b, o + j, none⟩ = some (.int .i64 (xs.getD j 0))) ∧ (∀ j, j < n → wr.cell? ⟨b', o' + j, none⟩ = some (.int .i64 (ys.getD j 0)))) (fun i _ => n - (intOf i).toNat)
  case atStart => exact ⟨0, Nat.zero_le _, rfl, rfl, Below.refl _ _, hcx, hcy⟩
  case round =>
    obtain ⟨k, hk, rfl, htk, hbel, hc1, hc2⟩ := hrel
    have HT : Hid (xs.take k = ys.take k) := htk
    clear htk hcx hcy
    by_cases hlt : k < n
    · have g1 := hc1 k hlt
      have g2 := hc2 k hlt
      have h0 : (0 : Int) ≤ (k : Int) := by omega
      have hl : (k : Int) < (n : Int) := by omega
      generalize hx : xs.getD k 0 = x at g1
      generalize hy : ys.getD k 0 = y at g2
      have H1 : Hid (xs.getD k 0 = x) := hx
      have H2 : Hid (ys.getD k 0 = y) := hy
      clear hx hy
      by_cases hxy : x = y
      · subst hxy
        have ht : (x != x) = false := by simp
        have HC : Hid ((∀ j, j < n → wr.cell? ⟨b, o + j, none⟩ = some (.int .i64 (xs.getD j 0))) ∧ (∀ j, j < n → wr.cell? ⟨b', o' + j, none⟩ = some (.int .i64 (ys.getD j 0)))) := ⟨hc1, hc2⟩
        clear hc1 hc2
        go_wp2
        go_quiet (fail)
        go_wp2
        go_roundw
        case rel => exact ⟨k + 1, by omega, by go_num, take_eq_succ (by rw [HX.out]; omega) (by rw [HY.out]; omega) HT.out (H1.out.trans H2.out.symm), below_drewN hbel _, HC.out.1, HC.out.2⟩
        case measure => simp [intOf]; omega
      · have ht : (x != y) = true := by simpa using hxy
        clear hc1 hc2
        go_wp2
        go_quiet (fail)
        go_wp2
        go_ret
        refine ⟨?_, below_drewN hbel _⟩
        have : xs ≠ ys := fun e => hxy (by rw [← H1.out, ← H2.out, e])
        simp [this]
    · clear hc1 hc2
      go_wp2
      go_ret
      refine ⟨?_, hbel⟩
      have e : xs = ys := by
        have := HT.out
        rwa [List.take_of_length_le (by rw [HX.out]; omega), List.take_of_length_le (by rw [HY.out]; omega)] at this
      simp [e]

theorem equalInt_ne (ao bo : Option Addr) (n m c d : Nat) (w : World) (hnm : n ≠ m) (hn : n ≤ 17592186044416) (hm : m ≤ 17592186044416) :
    Calls Try.prog 65 #[.slice ao n c, .slice bo m d] w fun e w' => e = .returned (.bool false) ∧ w' = w := by
  have hx : ((n : Int) != (m : Int)) = true := by rw [bne_iff_ne]; omega
  go_enter Try.func65, Try.ntmps65
  go_wp2
  go_ret
  exact ⟨rfl, rfl⟩

/-- slices.Equal over lists that are not empty. -/
theorem equalInt_c (ao bo : Option Addr) (n m c d : Nat) (xs ys : List Int) (w : World) (hx : xs.length = n) (hy : ys.length = m) (hn0 : n ≠ 0) (hn : n ≤ 17592186044416) (hm : m ≤ 17592186044416) (hr : Rd w ao xs) (hs : Rd w bo ys) :
    Calls Try.prog 65 #[.slice ao n c, .slice bo m d] w fun e w' => e = .returned (.bool (decide (xs = ys))) ∧ Below w.heap.size w w' := by
  by_cases hnm : n = m
  · subst hnm
    obtain ⟨b, o, rfl, hc⟩ := hr.at hx hn0
    obtain ⟨b', o', rfl, hc'⟩ := hs.at hy hn0
    exact equalInt_at b o n c b' o' d xs ys w hx hy hn hc hc'
  · refine (equalInt_ne ao bo n m c d w hnm hn hm).mono ?_
    rintro e w' ⟨rfl, hw⟩
    subst w'
    refine ⟨?_, Below.refl _ _⟩
    have : xs ≠ ys := fun e => hnm (by rw [← hx, ← hy, e])
    simp [this]

def addPF (l m : List (Int × Int)) : List (Int × Int) × Bool := if (partsB l = true ∧ partsB m = true) ∧ fsts l = fsts m then (List.zipWith (fun p q => (p.1, (p.2 + q.2) % 1499)) l m, true) else ([], false)
theorem addPF_short {l m zs : List (Int × Int)} {fb : Bool} (h : addPF l m = (zs, fb)) : zs.length ≤ 8 := by
  unfold addPF at h
  split at h
  · rename_i hc
    simp only [Prod.mk.injEq] at h
    obtain ⟨fl, rfl, _, _, _, h8⟩ := partsB_parts hc.1.1
    rw [← h.1, List.length_zipWith, pIs_length]; omega
  · simp only [Prod.mk.injEq] at h
    rw [← h.1]; simp
theorem zip_pIs : ∀ fl gl : List (F × F), List.zipWith (fun p q : Int × Int => (p.1, (p.2 + q.2) % 1499)) (pIs fl) (pIs gl) = pIs (addP fl gl)
  | [], _ => by simp [pIs, addP]
  | _ :: _, [] => by simp [pIs, addP]
  | p :: fl, q :: gl => by
    have ih := zip_pIs fl gl
    simp only [pIs, addP, List.map_cons, List.zipWith_cons_cons] at ih ⊢
    rw [ih]
    simp only [pI, List.cons.injEq, Prod.mk.injEq, and_true, true_and]
    exact vI_add p.2 q.2

end Go.Proofs.Ytamppekadobagaa
