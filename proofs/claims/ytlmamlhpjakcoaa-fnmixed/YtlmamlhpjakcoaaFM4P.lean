/- Plain facts for the law on mixed blocks and texts: each comes back. -/
import Derived.Test.YtlmamlhpjakcoaaTS4
import Derived.Test.YtlmamlhpjakcoaaBS
namespace Go.Proofs.Ytlmamlhpjakcoaa
set_option linter.unusedVariables false
set_option linter.unusedSimpArgs false
open Go.RowKit

theorem mix_parts {xs : List Int} {x r : Int} {fb : Bool} (h : mixF xs x = (r, fb)) : (fb = true ∧ keysB xs = true ∧ ∃ B : Nat, x = B ∧ B < 65536 ∧ r = (mixN (nums xs) B : Nat)) ∨ (fb = false ∧ ¬ (keysB xs = true ∧ blockB x = true)) := by
  unfold mixF at h
  split at h
  · rename_i hc
    simp only [Prod.mk.injEq] at h
    have hx : 0 ≤ x ∧ x ≤ 65535 := by simpa [blockB] using hc.2
    exact Or.inl ⟨h.2.symm, hc.1, x.toNat, by omega, by omega, h.1.symm⟩
  · rename_i hc
    simp only [Prod.mk.injEq] at h
    exact Or.inr ⟨h.2.symm, hc⟩
theorem unmix_of {xs : List Int} {B : Nat} (hk : keysB xs = true) (hB : B < 65536) : unmixF xs B = (((unmixN (nums xs) B : Nat) : Int), true) := by
  unfold unmixF
  rw [if_pos ⟨hk, by unfold blockB; exact decide_eq_true (by omega)⟩]
  simp
theorem mix_of {xs : List Int} {B : Nat} (hk : keysB xs = true) (hB : B < 65536) : mixF xs B = (((mixN (nums xs) B : Nat) : Int), true) := by
  unfold mixF
  rw [if_pos ⟨hk, by unfold blockB; exact decide_eq_true (by omega)⟩]
  simp

theorem get_str (l : List Int) (i : Nat) (hi : i < l.length) (h : ∀ x ∈ l, 0 ≤ x ∧ x ≤ 255) : byteN (strOfNums l) i = (l.getD i 0).toNat := by
  have hs : i < (strOfNums l).size := by rw [strOfNums_size]; exact hi
  rw [← byteN_eq hs]
  have e : (strOfNums l)[i] = UInt8.ofNat (l[i]).toNat := by
    show ((l.map fun n => UInt8.ofNat n.toNat).toArray)[i]'(by simpa using hi) = _
    simp
  rw [e]
  have hx := h l[i] (List.getElem_mem hi)
  rw [UInt8.toNat_ofNat']
  simp [List.getD, hi]
  omega
theorem two_range {z : Nat} (hz : z < 65536) : ∀ x ∈ two z, 0 ≤ x ∧ x ≤ 255 := by
  intro x hx
  simp only [two, List.mem_cons, List.not_mem_nil, or_false] at hx
  rcases hx with rfl | rfl <;> omega
theorem mixO_range {ks : List Nat} {s0 : Nat} {s : ByteArray} (h0 : s0 < 65536) : ∀ j, ∀ x ∈ mixO ks s0 s j, 0 ≤ x ∧ x ≤ 255
  | 0, x, hx => by simp [mixO] at hx
  | j + 1, x, hx => by
    rw [mixO, List.mem_append] at hx
    rcases hx with hx | hx
    · exact mixO_range h0 j x hx
    · exact two_range (mixS_lt h0 _) x hx
theorem mixO_at {ks : List Nat} {s0 : Nat} {s : ByteArray} : ∀ m j, j < m → (mixO ks s0 s m).getD (2 * j) 0 = ((mixS ks s0 s (j + 1) / 256 : Nat) : Int) ∧ (mixO ks s0 s m).getD (2 * j + 1) 0 = ((mixS ks s0 s (j + 1) % 256 : Nat) : Int)
  | 0, j, h => absurd h (by omega)
  | m + 1, j, h => by
    have hl := mixO_length ks s0 s m
    rw [mixO]
    by_cases e : j = m
    · subst e
      constructor
      · rw [List.getD, List.getElem?_append_right (by omega), hl, show 2 * j - 2 * j = 0 by omega]; rfl
      · rw [List.getD, List.getElem?_append_right (by omega), hl, show 2 * j + 1 - 2 * j = 1 by omega]; rfl
    · have ih := mixO_at (ks := ks) (s0 := s0) (s := s) m j (by omega)
      constructor
      · rw [List.getD, List.getElem?_append_left (by omega)]; exact ih.1
      · rw [List.getD, List.getElem?_append_left (by omega)]; exact ih.2
theorem pair_mix {ks : List Nat} {s0 : Nat} {s : ByteArray} (h0 : s0 < 65536) {m j : Nat} (hj : j < m) : pairN (strOfNums (mixO ks s0 s m)) (2 * j) = mixS ks s0 s (j + 1) := by
  have hl := mixO_length ks s0 s m
  have hr := mixO_range (ks := ks) (s := s) h0 m
  have ha := mixO_at (ks := ks) (s0 := s0) (s := s) m j hj
  unfold pairN
  rw [get_str _ _ (by omega) hr, get_str _ _ (by omega) hr, ha.1, ha.2]
  have := Nat.div_add_mod (mixS ks s0 s (j + 1)) 256
  simp only [Int.toNat_natCast]
  omega
theorem unS_mix {ks : List Nat} {s0 : Nat} {s : ByteArray} (h0 : s0 < 65536) {m : Nat} : ∀ j, j ≤ m → unS s0 (strOfNums (mixO ks s0 s m)) j = mixS ks s0 s j
  | 0, _ => rfl
  | j + 1, h => by rw [unS, pair_mix h0 (by omega)]
theorem xor_back (a b : Nat) : (a ^^^ b) ^^^ b = a := by rw [Nat.xor_assoc, Nat.xor_self, Nat.xor_zero]
/-- The bytes of a text, two by two. -/
def pairsL (s : ByteArray) : Nat → List Int
  | 0 => []
  | j + 1 => pairsL s j ++ two (pairN s (2 * j))
theorem unO_mix {ks : List Nat} {s0 : Nat} {s : ByteArray} (h0 : s0 < 65536) {m : Nat} : ∀ j, j ≤ m → unO ks s0 (strOfNums (mixO ks s0 s m)) j = pairsL s j
  | 0, _ => rfl
  | j + 1, h => by
    rw [unO, pairsL, unO_mix h0 j (by omega), pair_mix h0 (by omega), unS_mix h0 j (by omega)]
    congr 2
    rw [mixS, unmix_mix (xor_lt (pairN_lt _ _) (mixS_lt h0 j)), xor_back]
theorem pairsL_length (s : ByteArray) : ∀ j, (pairsL s j).length = 2 * j
  | 0 => rfl
  | j + 1 => by simp [pairsL, pairsL_length s j, two]; omega
theorem pairsL_at (s : ByteArray) : ∀ m i, i < 2 * m → (pairsL s m).getD i 0 = (byteN s i : Int)
  | 0, i, h => absurd h (by omega)
  | m + 1, i, h => by
    have hl := pairsL_length s m
    rw [pairsL]
    have h1 := byteN_lt s (2 * m)
    have h2 := byteN_lt s (2 * m + 1)
    by_cases e : i < 2 * m
    · rw [List.getD, List.getElem?_append_left (by omega)]; exact pairsL_at s m i e
    · rw [List.getD, List.getElem?_append_right (by omega), hl]
      rcases Nat.lt_or_ge (2 * m) i with e2 | e2
      · rw [show i - 2 * m = 1 by omega, show i = 2 * m + 1 by omega]
        show ((pairN s (2 * m) % 256 : Nat) : Int) = _
        unfold pairN; omega
      · rw [show i - 2 * m = 0 by omega, show i = 2 * m by omega]
        show ((pairN s (2 * m) / 256 : Nat) : Int) = _
        unfold pairN; omega
theorem str_pairs (s : ByteArray) {m : Nat} (h : s.size = 2 * m) : strOfNums (pairsL s m) = s := by
  apply Go.WideShapes.bytes_inj
  rw [strOfNums_data]
  apply List.ext_getElem
  · rw [List.length_map, pairsL_length]; show 2 * m = s.data.toList.length; rw [Array.length_toList]; exact h.symm
  · intro i h1 h2
    have hi : i < 2 * m := by rw [List.length_map, pairsL_length] at h1; exact h1
    rw [List.getElem_map]
    have e := pairsL_at s m i hi
    have hl := pairsL_length s m
    have e2 : (pairsL s m)[i]'(by omega) = (byteN s i : Int) := by
      rw [← e]; simp [List.getD, show i < (pairsL s m).length by omega]
    rw [e2]
    have hs : i < s.size := by omega
    rw [← byteN_eq hs]
    simp only [Int.toNat_natCast]
    show UInt8.ofNat (s.data[i]).toNat = s.data.toList[i]
    simp
theorem text_back {xs : List Int} {x : Int} {s t : ByteArray} (h : mixTF xs x s = (t, true)) : unmixTF xs x t = (s, true) ∧ t.size = s.size := by
  unfold mixTF at h
  split at h
  · rename_i hc
    simp only [Prod.mk.injEq, and_true] at h
    obtain ⟨h1, h2, h3⟩ := textG_parts hc
    have hx : 0 ≤ x ∧ x ≤ 65535 := by simpa [blockB] using h2
    obtain ⟨h40, hev⟩ : s.size ≤ 40 ∧ s.size % 2 = 0 := by simpa [pairsB] using h3
    have hts : t.size = s.size := by rw [← h, strOfNums_size, mixO_length]; omega
    refine ⟨?_, hts⟩
    unfold unmixTF
    have hc2 : textG xs x t = true := by
      unfold textG
      rw [h1, h2, show pairsB t = true by unfold pairsB; rw [hts]; exact decide_eq_true ⟨h40, hev⟩]; rfl
    rw [if_pos hc2, hts]
    have e := unO_mix (ks := nums xs) (s0 := x.toNat) (s := s) (by omega) (m := s.size / 2) (s.size / 2) (Nat.le_refl _)
    rw [h] at e
    rw [e, str_pairs s (by omega)]
  · simp at h
theorem flags_same {xs : List Int} {x : Int} {s t v : ByteArray} {tb vb : Bool} (h : mixTF xs x s = (t, tb)) (k : unmixTF xs x s = (v, vb)) : tb = vb := by
  unfold mixTF at h
  unfold unmixTF at k
  split at h
  · rename_i hc
    rw [if_pos hc] at k
    simp only [Prod.mk.injEq] at h k
    rw [← h.2, ← k.2]
  · rename_i hc
    rw [if_neg hc] at k
    simp only [Prod.mk.injEq] at h k
    rw [← h.2, ← k.2]

end Go.Proofs.Ytlmamlhpjakcoaa
