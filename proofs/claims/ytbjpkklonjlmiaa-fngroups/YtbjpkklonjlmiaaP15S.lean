/- Chapter 15: plain facts: two sorted parts merged by rotations (slices.symMergeCmpFunc). -/
import Derived.Test.YtbjpkklonjlmiaaSW15
namespace Go.Proofs.Ytbjpkklonjlmiaa
set_option linter.unusedVariables false
set_option maxRecDepth 1000000
set_option linter.unusedSimpArgs false
open Go.Sort

def ky (d : Array Stp) (x : Nat) : Int := (d[x]!).2.1
/-- Rising by where the steps lead, from a up to b. -/
def Srt (d : Array Stp) (a b : Nat) : Prop := ∀ i j, a ≤ i → i ≤ j → j < b → ky d i ≤ ky d j
/-- d' is d, its places from a up to b laid in order. -/
structure Mrg (d d' : Array Stp) (a b : Nat) : Prop where
  size : d'.size = d.size
  perm : d'.toList.Perm d.toList
  out : ∀ x, x < a ∨ b ≤ x → d'[x]! = d[x]!
  mem : ∀ x, a ≤ x → x < b → ∃ y, a ≤ y ∧ y < b ∧ d'[x]! = d[y]!
  srt : Srt d' a b

theorem ltQ (x y : Stp) : (cmpQ x y < 0) = (x.2.1 < y.2.1) := by
  unfold cmpQ Lib.compareInt
  by_cases h : x.2.1 < y.2.1
  · simp [h]
  · by_cases h2 : x.2.1 > y.2.1 <;> simp [h, h2]

/-- One step laid behind those that are less: the part from a + 1 on moves down. -/
theorem mrg_up {d d' : Array Stp} {a b i : Nat} (hs : d'.size = d.size) (hp : d'.toList.Perm d.toList) (ha : a + 1 ≤ i) (hib : i ≤ b) (hS : Srt d (a + 1) b) (h1 : ∀ x, a + 1 ≤ x → x < i → ky d x < ky d a) (h2 : ∀ x, i ≤ x → x < b → ky d a ≤ ky d x) (hd : ∀ x, d'[x]! = if a ≤ x ∧ x < i - 1 then d[x + 1]! else if x = i - 1 then d[a]! else d[x]!) : Mrg d d' a b := by
  have hk : ∀ x, ky d' x = if a ≤ x ∧ x < i - 1 then ky d (x + 1) else if x = i - 1 then ky d a else ky d x := fun x => by
    unfold ky
    rw [hd x]
    split
    · rfl
    · split <;> rfl
  refine ⟨hs, hp, fun x hx => ?_, fun x h3 h4 => ?_, fun x y h3 h4 h5 => ?_⟩
  · rw [hd x, if_neg (by omega), if_neg (by omega)]
  · rw [hd x]
    split
    · exact ⟨x + 1, by omega, by omega, rfl⟩
    · split
      · exact ⟨a, by omega, by omega, rfl⟩
      · exact ⟨x, h3, h4, rfl⟩
  · rw [hk x, hk y]
    by_cases c1 : y < i - 1
    · rw [if_pos (show a ≤ x ∧ x < i - 1 by omega), if_pos (show a ≤ y ∧ y < i - 1 by omega)]
      exact hS _ _ (by omega) (by omega) (by omega)
    · rw [if_neg (show ¬ (a ≤ y ∧ y < i - 1) by omega)]
      by_cases c2 : y = i - 1
      · rw [if_pos c2]
        by_cases c3 : x < i - 1
        · rw [if_pos (show a ≤ x ∧ x < i - 1 by omega)]
          exact Int.le_of_lt (h1 _ (by omega) (by omega))
        · rw [if_neg (show ¬ (a ≤ x ∧ x < i - 1) by omega), if_pos (by omega)]; exact Int.le_refl _
      · rw [if_neg c2]
        by_cases c3 : x < i - 1
        · rw [if_pos (show a ≤ x ∧ x < i - 1 by omega)]
          exact hS _ _ (by omega) (by omega) (by omega)
        · rw [if_neg (show ¬ (a ≤ x ∧ x < i - 1) by omega)]
          by_cases c4 : x = i - 1
          · rw [if_pos c4]; exact h2 _ (by omega) (by omega)
          · rw [if_neg c4]; exact hS _ _ (by omega) (by omega) (by omega)

/-- One step laid ahead of those that are greater: the part up to m moves up. -/
theorem mrg_down {d d' : Array Stp} {a m i : Nat} (hs : d'.size = d.size) (hp : d'.toList.Perm d.toList) (ha : a ≤ i) (him : i ≤ m) (hS : Srt d a m) (h1 : ∀ x, a ≤ x → x < i → ky d x ≤ ky d m) (h2 : ∀ x, i ≤ x → x < m → ky d m < ky d x) (hd : ∀ x, d'[x]! = if i < x ∧ x ≤ m then d[x - 1]! else if x = i then d[m]! else d[x]!) : Mrg d d' a (m + 1) := by
  have hk : ∀ x, ky d' x = if i < x ∧ x ≤ m then ky d (x - 1) else if x = i then ky d m else ky d x := fun x => by
    unfold ky
    rw [hd x]
    split
    · rfl
    · split <;> rfl
  refine ⟨hs, hp, fun x hx => ?_, fun x h3 h4 => ?_, fun x y h3 h4 h5 => ?_⟩
  · rw [hd x, if_neg (by omega), if_neg (by omega)]
  · rw [hd x]
    split
    · exact ⟨x - 1, by omega, by omega, rfl⟩
    · split
      · exact ⟨m, by omega, by omega, rfl⟩
      · exact ⟨x, h3, h4, rfl⟩
  · rw [hk x, hk y]
    by_cases c1 : i < y
    · rw [if_pos (show i < y ∧ y ≤ m by omega)]
      by_cases c2 : i < x
      · rw [if_pos (show i < x ∧ x ≤ m by omega)]
        exact hS _ _ (by omega) (by omega) (by omega)
      · rw [if_neg (show ¬ (i < x ∧ x ≤ m) by omega)]
        by_cases c3 : x = i
        · rw [if_pos c3]; exact Int.le_of_lt (h2 _ (by omega) (by omega))
        · rw [if_neg c3]; exact hS _ _ (by omega) (by omega) (by omega)
    · rw [if_neg (show ¬ (i < y ∧ y ≤ m) by omega), if_neg (show ¬ (i < x ∧ x ≤ m) by omega)]
      by_cases c2 : y = i
      · rw [if_pos c2]
        by_cases c3 : x = i
        · rw [if_pos c3]; exact Int.le_refl _
        · rw [if_neg c3]; exact h1 _ (by omega) (by omega)
      · rw [if_neg c2, if_neg (by omega)]; exact hS _ _ (by omega) (by omega) (by omega)

/-- What holds behind the rotation: four rising parts, the two of the first half not above the two of the second. -/
structure Mid (d d1 : Array Stp) (a s mid e b : Nat) : Prop where
  s1 : Srt d1 a s
  s2 : Srt d1 s mid
  s3 : Srt d1 mid e
  s4 : Srt d1 e b
  cross : ∀ x y, a ≤ x → x < mid → mid ≤ y → y < b → ky d1 x ≤ ky d1 y
  out : ∀ x, x < a ∨ b ≤ x → d1[x]! = d[x]!
  mem : ∀ x, a ≤ x → x < b → ∃ y, a ≤ y ∧ y < b ∧ d1[x]! = d[y]!

theorem mid_of {d d1 : Array Stp} {a m b s mid e s0 r0 : Nat} (hA : Srt d a m) (hB : Srt d m b) (ham : a < m) (hmb : m < b) (hmid : (a + b) / 2 = mid)
    (hs0 : s0 = if mid < m then mid + m - b else a) (hr0 : r0 = if mid < m then mid else m) (h0 : s0 ≤ s) (h1 : s ≤ r0) (he : e = mid + m - s)
    (hl : ∀ x, s0 ≤ x → x < s → ky d x ≤ ky d (mid + m - 1 - x)) (hr : ∀ x, s ≤ x → x < r0 → ky d (mid + m - 1 - x) < ky d x)
    (hd : ∀ x, d1[x]! = rotD d s m e x) : Mid d d1 a s mid e b ∧ a ≤ s ∧ s ≤ m ∧ m ≤ e ∧ e ≤ b ∧ s ≤ mid ∧ mid ≤ e := by
  have hb : a ≤ s ∧ s ≤ m ∧ m ≤ e ∧ e ≤ b ∧ s ≤ mid ∧ mid ≤ e := by
    split at hs0 <;> split at hr0 <;> omega
  obtain ⟨b1, b2, b3, b4, b5, b6⟩ := hb
  have hem : s + (e - m) = mid := by omega
  have hk : ∀ x, ky d1 x = if s ≤ x ∧ x < mid then ky d (m + (x - s)) else if mid ≤ x ∧ x < e then ky d (x - (e - m)) else ky d x := fun x => by
    unfold ky
    rw [hd x]
    unfold rotD
    rw [hem]
    split
    · rfl
    · split <;> rfl
  -- the four parts
  have k1 : ∀ x, x < s → ky d1 x = ky d x := fun x h => by rw [hk x, if_neg (by omega), if_neg (by omega)]
  have k2 : ∀ x, s ≤ x → x < mid → ky d1 x = ky d (m + (x - s)) := fun x h h' => by rw [hk x, if_pos ⟨h, h'⟩]
  have k3 : ∀ x, mid ≤ x → x < e → ky d1 x = ky d (x - (e - m)) := fun x h h' => by rw [hk x, if_neg (by omega), if_pos ⟨h, h'⟩]
  have k4 : ∀ x, e ≤ x → ky d1 x = ky d x := fun x h => by rw [hk x, if_neg (by omega), if_neg (by omega)]
  -- a left part's last against the right part's rest
  have c14 : ∀ x y, a ≤ x → x < s → e ≤ y → y < b → ky d x ≤ ky d y := fun x y h2 h3 h4 h5 => by
    have hs1 : s0 ≤ s - 1 := by
      by_cases h : s0 = s
      · exfalso; split at hs0 <;> split at hr0 <;> omega
      · omega
    have e1 := hl (s - 1) hs1 (by omega)
    have e2 := hA x (s - 1) h2 (by omega) (by omega)
    have e3 := hB (mid + m - 1 - (s - 1)) y (by omega) (by omega) h5
    omega
  have c23 : ∀ x y, m ≤ x → x < e → s ≤ y → y < m → ky d x ≤ ky d y := fun x y h2 h3 h4 h5 => by
    have hs1 : s < r0 := by
      by_cases h : s = r0
      · exfalso; split at hs0 <;> split at hr0 <;> omega
      · omega
    have e1 := hr s (Nat.le_refl _) hs1
    have e2 := hB x (mid + m - 1 - s) h2 (by omega) (by omega)
    have e3 := hA s y (by omega) h4 h5
    omega
  refine ⟨⟨fun i j p q r => ?_, fun i j p q r => ?_, fun i j p q r => ?_, fun i j p q r => ?_, fun x y p q r t => ?_, fun x p => ?_, fun x p q => ?_⟩, b1, b2, b3, b4, b5, b6⟩
  · rw [k1 i (by omega), k1 j r]; exact hA i j p q (by omega)
  · rw [k2 i p (by omega), k2 j (by omega) r]; exact hB _ _ (by omega) (by omega) (by omega)
  · rw [k3 i p (by omega), k3 j (by omega) r]; exact hA _ _ (by omega) (by omega) (by omega)
  · rw [k4 i p, k4 j (by omega)]; exact hB i j (by omega) q r
  · by_cases c1 : x < s
    · rw [k1 x c1]
      by_cases c2 : y < e
      · rw [k3 y r c2]; exact hA _ _ p (by omega) (by omega)
      · rw [k4 y (by omega)]; exact c14 x y p c1 (by omega) t
    · rw [k2 x (by omega) q]
      by_cases c2 : y < e
      · rw [k3 y r c2]; exact c23 _ _ (by omega) (by omega) (by omega) (by omega)
      · rw [k4 y (by omega)]; exact hB _ _ (by omega) (by omega) t
  · rw [hd x]; unfold rotD; rw [if_neg (by omega), if_neg (by omega)]
  · rw [hd x]
    unfold rotD
    split
    · exact ⟨m + (x - s), by omega, by omega, rfl⟩
    · split
      · exact ⟨x - (e - m), by omega, by omega, rfl⟩
      · exact ⟨x, p, q, rfl⟩

theorem Mrg.same {d : Array Stp} {a b : Nat} (h : Srt d a b) : Mrg d d a b := ⟨rfl, List.Perm.refl _, fun _ _ => rfl, fun x p q => ⟨x, p, q, rfl⟩, h⟩

/-- The halves laid in order, too: all is. -/
theorem mrg_of {d d1 d2 d3 : Array Stp} {a b s mid e : Nat} (h : Mid d d1 a s mid e b) (hs : d1.size = d.size) (hp : d1.toList.Perm d.toList) (h2 : Mrg d1 d2 a mid) (h3 : Mrg d2 d3 mid b) (ham : a ≤ mid) (hmb : mid ≤ b) : Mrg d d3 a b := by
  refine ⟨h3.size.trans (h2.size.trans hs), h3.perm.trans (h2.perm.trans hp), fun x p => ?_, fun x p q => ?_, fun x y p q r => ?_⟩
  · rw [h3.out x (by omega), h2.out x (by omega), h.out x p]
  · by_cases c : x < mid
    · rw [h3.out x (Or.inl c)]
      obtain ⟨y, y1, y2, y3⟩ := h2.mem x p c
      obtain ⟨z, z1, z2, z3⟩ := h.mem y y1 (by omega)
      exact ⟨z, z1, z2, by rw [y3, z3]⟩
    · obtain ⟨y, y1, y2, y3⟩ := h3.mem x (by omega) q
      obtain ⟨z, z1, z2, z3⟩ := h.mem y (by omega) y2
      exact ⟨z, z1, z2, by rw [y3, h2.out y (Or.inr y1), z3]⟩
  · have lo : ∀ z, z < mid → ky d3 z = ky d2 z := fun z hz => by unfold ky; rw [h3.out z (Or.inl hz)]
    by_cases c1 : y < mid
    · rw [lo x (by omega), lo y c1]; exact h2.srt x y p q c1
    · by_cases c2 : x < mid
      · rw [lo x c2]
        obtain ⟨z, z1, z2, z3⟩ := h2.mem x p c2
        obtain ⟨u, u1, u2, u3⟩ := h3.mem y (by omega) r
        have e1 : ky d2 x = ky d1 z := by unfold ky; rw [z3]
        have e2 : ky d3 y = ky d1 u := by unfold ky; rw [u3, h2.out u (Or.inr u1)]
        rw [e1, e2]
        exact h.cross z u z1 z2 u1 u2
      · exact h3.srt x y (by omega) q r

end Go.Proofs.Ytbjpkklonjlmiaa
