/- The library's slices.Delete of one number, on a row of the call's own. -/
import Derived.Test.YtlmamlhpjakcoaaB3
import Derived.Deep.RegionLaw
import Derived.Lib.SliceRun
namespace Go.Proofs.Ytlmamlhpjakcoaa
set_option linter.unusedVariables false
set_option linter.unusedSimpArgs false
open Go.RowKit

def putL : List Value → Nat → List Value → List Value
  | xs, _, [] => xs
  | xs, o, v :: r => putL (xs.set o v) (o + 1) r
theorem putL_length : ∀ (vs : List Value) (xs : List Value) (o : Nat), (putL xs o vs).length = xs.length
  | [], _, _ => rfl
  | v :: r, xs, o => by rw [putL, putL_length r]; simp
theorem putL_get : ∀ (vs : List Value) (xs : List Value) (o i : Nat), o + vs.length ≤ xs.length → (putL xs o vs)[i]? = if o ≤ i ∧ i < o + vs.length then vs[i - o]? else xs[i]?
  | [], xs, o, i, _ => by rw [putL, if_neg (by simp)]
  | v :: r, xs, o, i, h => by
    simp only [List.length_cons] at h
    rw [putL, putL_get r (xs.set o v) (o + 1) i (by simp; omega)]
    by_cases h1 : i = o
    · subst h1
      rw [if_neg (by omega), if_pos (by simp)]
      simp [List.getElem?_set, show i < xs.length by omega]
    · by_cases h2 : o + 1 ≤ i ∧ i < o + 1 + r.length
      · rw [if_pos h2, if_pos (by simp; omega), show i - o = (i - (o + 1)) + 1 by omega, List.getElem?_cons_succ]
      · rw [if_neg h2, if_neg (by simp; omega), List.getElem?_set_ne (by omega)]
theorem ownsRow_setCells {base e n cap g : Nat} : ∀ (vs : List Value) (o : Nat) (w : World) (xs : List Value), w.ownsRow base e 1 (.slice (some ⟨g, 0, none⟩) n cap) n xs → (w.setCells g o vs).ownsRow base e 1 (.slice (some ⟨g, 0, none⟩) n cap) n (putL xs o vs) ∧ w.grownBy (w.setCells g o vs) (some g)
  | [], _, w, xs, h => ⟨h, World.grownBy.refl _ _⟩
  | v :: r, o, w, xs, h => by
    have h1 := World.ownsRow.stored h o v
    have h2 := ownsRow_setCells r (o + 1) _ _ h1.1
    exact ⟨h2.1, ⟨h2.2.os.trans h1.2.os, h2.2.tape.trans h1.2.tape, h2.2.output.trans h1.2.output, Nat.le_trans h1.2.size h2.2.size, fun k hk hne => (h2.2.block k (Nat.lt_of_lt_of_le hk h1.2.size) hne).trans (h1.2.block k hk hne)⟩⟩
theorem ownsRow_shrink {w : World} {base e n m cap g : Nat} {xs : List Value} (h : w.ownsRow base e 1 (.slice (some ⟨g, 0, none⟩) n cap) n xs) (hm : m ≤ n) : w.ownsRow base e 1 (.slice (some ⟨g, 0, none⟩) m cap) m (xs.take m) := by
  refine ⟨by rw [List.length_take, h.1]; omega, ?_⟩
  rcases h.2 with ⟨h', _⟩ | ⟨g', cap', cur, h', hb, hg, hnc, hcm, hcs, htake⟩
  · simp at h'
  · simp only [Value.slice.injEq, Option.some.injEq, Addr.mk.injEq, and_true, true_and] at h'
    obtain ⟨rfl, rfl⟩ := h'
    refine .inr ⟨g, cap, cur, rfl, hb, hg, by omega, hcm, hcs, ?_⟩
    rw [← htake, List.take_take]
    congr 1
    omega

theorem erase_cells (L : List Value) (k n : Nat) (z : Value) (hL : L.length = n) (hk : k < n) : (putL (putL L k (L.drop (k + 1))) (n - 1) [z]).take (n - 1) = L.eraseIdx k := by
  apply List.ext_getElem?
  intro i
  have hl1 : (L.drop (k + 1)).length = n - (k + 1) := by rw [List.length_drop, hL]
  rw [List.getElem?_take, List.getElem?_eraseIdx]
  by_cases hi : i < n - 1
  · rw [if_pos hi, putL_get _ _ _ _ (by rw [putL_length, hL]; simp; omega), if_neg (by simp; omega), putL_get _ _ _ _ (by rw [hl1]; omega), hl1]
    by_cases h2 : i < k
    · rw [if_neg (by omega), if_pos h2]
    · rw [if_pos (by omega), if_neg h2, List.getElem?_drop, show k + 1 + (i - k) = i + 1 by omega]
  · rw [if_neg hi]
    by_cases h2 : i < k
    · omega
    · rw [if_neg h2, List.getElem?_eq_none (by omega)]

theorem cellsI_erase : ∀ (xs : List Int) (k : Nat), cellsI (xs.eraseIdx k) = (cellsI xs).eraseIdx k
  | [], _ => rfl
  | _ :: _, 0 => rfl
  | a :: r, k + 1 => congrArg (Value.int .i64 a :: ·) (cellsI_erase r k)

set_option maxHeartbeats 2000000 in
set_option maxRecDepth 1000000 in
theorem delete_c (g n c k base : Nat) (z : Int) (xs : List Int) (w : World) (hx : xs.length = n) (hn : n ≤ 100) (hk : k < n) (hz : z = (k : Int) + 1) (ho : Own w base (.slice (some ⟨g, 0, none⟩) n c) xs) :
    Calls Try.prog 74 #[.slice (some ⟨g, 0, none⟩) n c, .int .i64 k, .int .i64 z] w fun e w' => e = .returned (.slice (some ⟨g, 0, none⟩) (n - 1) c) ∧ Own w' base (.slice (some ⟨g, 0, none⟩) (n - 1) c) (xs.eraseIdx k) ∧ Below base w w' ∧ (∀ b, b < w.heap.size → b ≠ g → w'.heap[b]? = w.heap[b]?) := by
  obtain ⟨i0, hi0, hz0, hz1, hz2⟩ := info_parts Try.infoInt
  have hown : w.ownsRow base 3 1 (.slice (some ⟨g, 0, none⟩) n c) n (cellsI xs) := by unfold Own at ho; rw [hx] at ho; exact ho
  obtain ⟨hgb, hgs, hnc, hcm⟩ : base ≤ g ∧ g < w.heap.size ∧ n ≤ c ∧ c ≤ maxLen := by
    rcases ho.form with ⟨h1, _⟩ | ⟨g', cap, h1, h2, h3, h4, h5⟩
    · simp at h1
    · simp only [Value.slice.injEq, Option.some.injEq, Addr.mk.injEq, and_true, true_and] at h1
      obtain ⟨rfl, rfl, rfl⟩ := h1
      exact ⟨h2, h3, h4, h5⟩
  have hcl : (cellsI xs).length = n := by rw [cellsI_length]; exact hx
  obtain ⟨news, hnews⟩ : ∃ news, news = (cellsI xs).drop (k + 1) := ⟨_, rfl⟩
  have hlen : news.length = n - (k + 1) := by rw [hnews, List.length_drop, hcl]
  have hcell : ∀ j u, (cellsI xs)[j]? = some u → w.drew.cell? ⟨g, j, none⟩ = some u := fun j u hu => by
    have hj : j < n := by have := (List.getElem?_eq_some_iff.1 hu).1; omega
    show w.cell? _ = _
    rw [World.ownsRow.cellAt hown j (by omega)]; exact hu
  obtain ⟨A, hA, hsrc⟩ : ∃ A : Addr, (if c = k + 1 then some (⟨g, 0, none⟩ : Addr) else some ⟨g, k + 1, none⟩) = some A ∧ Hid (∀ t u, news[t]? = some u → w.drew.cell? (A.add t) = some u) := by
    by_cases h : c = k + 1
    · refine ⟨⟨g, 0, none⟩, by simp [h], fun t u hu => ?_⟩
      have h0 : news.length = 0 := by rw [hlen]; omega
      rw [List.length_eq_zero_iff.1 h0] at hu
      simp at hu
    · refine ⟨⟨g, k + 1, none⟩, by simp [h], fun t u hu => ?_⟩
      rw [hnews, List.getElem?_drop] at hu
      rw [Addr.add_lit]
      exact hcell _ _ hu
  have s1 : Hid (news.length = (n - (k + 1)) * 1) := by rw [Nat.mul_one]; exact hlen
  have s2 : Hid (∀ u ∈ news, u.oneCell' = true) := by
    intro u hu
    rw [hnews] at hu
    exact cellsI_oneCell xs u (List.mem_of_mem_drop hu)
  have s3 : Hid (∀ t, t < news.length → (w.drew.cell? ⟨g, 0 + k * 1 + t, none⟩).isSome = true ∧ w.drew.frozen? ⟨g, 0 + k * 1 + t, none⟩ = false) := by
    intro t ht
    rw [hlen] at ht
    rw [Nat.mul_one, Nat.zero_add]
    refine ⟨?_, World.ownsRow.frozenAt hown _⟩
    show (w.cell? _).isSome = true
    rw [World.ownsRow.cellAt hown (k + t) (by omega), List.getElem?_eq_getElem (by omega)]; rfl
  obtain ⟨W1, hW1⟩ : ∃ W1, W1 = w.drew.setCells g (0 + k * 1) news := ⟨_, rfl⟩
  have hr1 : W1.ownsRow base 3 1 (.slice (some ⟨g, 0, none⟩) n c) n (putL (cellsI xs) k news) ∧ w.drew.grownBy W1 (some g) := by
    have h := ownsRow_setCells (e := 3) news k w.drew (cellsI xs) hown.drew
    rw [hW1, show 0 + k * 1 = k by omega]; exact h
  have hclr : ∀ ty, (Builtin.clear_ #[23] ty #[.slice (some ⟨g, n - 1, none⟩) 1 (c - (n - 1))]).run Try.prog W1 = .ok (.tuple #[]) (W1.setCells g (n - 1) [.int .i64 0]) :=
    fun ty => Go.Lib.run_clear_slice W1 23 3 ty (.int .i64 0) Try.underlying23 (fun w => Try.zeroValue3 w) rfl rfl g (n - 1) 1 _ (by omega) (fun t ht => by
      rw [show n - 1 + t = n - 1 by omega, World.ownsRow.cellAt hr1.1 (n - 1) (by omega), List.getElem?_eq_getElem (by rw [putL_length, hcl]; omega)]; rfl) (fun t ht => World.ownsRow.frozenAt hr1.1 _)
  have hr2 := ownsRow_setCells (e := 3) [.int .i64 0] (n - 1) W1 _ hr1.1
  have HW2 : Hid (Own (W1.setCells g (n - 1) [.int .i64 0]) base (.slice (some ⟨g, 0, none⟩) (n - 1) c) (xs.eraseIdx k) ∧ Below base w (W1.setCells g (n - 1) [.int .i64 0]) ∧ (∀ b, b < w.heap.size → b ≠ g → (W1.setCells g (n - 1) [.int .i64 0]).heap[b]? = w.heap[b]?)) := by
    have h3 := ownsRow_shrink hr2.1 (m := n - 1) (by omega)
    rw [hnews, erase_cells (cellsI xs) k n _ hcl hk] at h3
    have hl : (xs.eraseIdx k).length = n - 1 := by rw [List.length_eraseIdx, if_pos (by omega), hx]
    refine ⟨?_, ?_, ?_⟩
    · unfold Own
      rw [hl]
      have e : cellsI (xs.eraseIdx k) = (cellsI xs).eraseIdx k := cellsI_erase xs k
      rw [e]; exact h3
    · have b1 : Below base w W1 := ((Below.refl base w).drew).grown hr1.2 (by show base ≤ w.heap.size; omega) (fun k' e => by cases e; exact hgb)
      exact b1.grown hr2.2 (Nat.le_trans (by omega) b1.size) (fun k' e => by cases e; exact hgb)
    · intro b hb hne
      rw [hr2.2.block b (Nat.lt_of_lt_of_le hb hr1.2.size) (fun e => hne (by cases e; rfl)), hr1.2.block b hb (fun e => hne (by cases e; rfl))]; rfl
  have hW : Hid (W1 = w.drew.setCells g (0 + k * 1) news) := hW1
  have hkc : k ≤ c := by omega
  have hp0 : (0 : Int) ≤ z := by omega
  have hp1 : z ≤ (n : Int) := by omega
  have hp2 : z.toNat = k + 1 := by omega
  have hp3 : (k : Int) ≤ z := by omega
  have hne : ((k : Int) == z) = false := by rw [beq_eq_false_iff_ne]; omega
  have hsz : k + (n - (k + 1)) = n - 1 := by omega
  have hsi : (k : Int) + ((n - (k + 1) : Nat) : Int) = ((n - 1 : Nat) : Int) := by omega
  have hn1 : n - (n - 1) = 1 := by omega
  unfold maxLen at hcm
  clear hW1 hr1 hr2 hown ho hcell hnews hlen hcl hz
  go_enter Try.func74, Try.ntmps74
  go_wp2_with fail
  go_region_law (refine step_append_room rfl (.tmp 22) (.tmp 25) 23 rfl 3 i0 1 Try.underlying23 hi0 hz1 g 0 k c (by simp [Act.eval, Act.put]) A (n - (k + 1)) (c - (k + 1)) news (by simp [Act.eval, Act.put]) s1.out hsrc.out s2.out (by omega) s3.out ?_; rw [← hW.out])
  go_wp2
  go_ret
  exact ⟨rfl, HW2.out⟩

end Go.Proofs.Ytlmamlhpjakcoaa
