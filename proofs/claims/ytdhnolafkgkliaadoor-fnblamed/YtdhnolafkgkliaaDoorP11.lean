/- Chapter 11: plain facts: what is signed, which receipts are right, the first hand without one, trips. -/
import Derived.Test.YtdhnolafkgkliaaDoorP6M
namespace Go.Proofs.YtdhnolafkgkliaaDoor
set_option linter.unusedVariables false
set_option maxRecDepth 1000000
set_option linter.unusedSimpArgs false

abbrev Rc := Int × Int × Int × Int

def numR (f l : Int) : Int := (l + 1001 * (f + 2) + 7) % 1499

def letB (l : Int) : Bool := decide (0 ≤ l ∧ l ≤ 1000)

def signOk (s f t l : Int) : Bool := secB6 s && (decide (-1 ≤ f ∧ f ≤ 4) && (decide (t = f + 1) && letB l))

def signN (s f l : Int) : Int := numR f l * s % 1499

def signR (s f l : Int) : Rc := (f, f + 1, l, signN s f l)

def recB (r : Rc) : Bool := decide (-1 ≤ r.1 ∧ r.1 ≤ 4) && (decide (r.2.1 = r.1 + 1) && (letB r.2.2.1 && decide (0 ≤ r.2.2.2 ∧ r.2.2.2 ≤ 1498)))

def chkR (p : Int) (r : Rc) : Bool := pw 4 r.2.2.2.toNat == pw p (numR r.1 r.2.2.1).toNat

def checkB (p : Int) (r : Rc) : Bool := memB p && recB r

def rightB (p : Int) (r : Rc) : Bool := checkB p r && chkR p r

/-- The receipt r says that hand h had letter l. -/
def saysR (p : Int) (h l : Int) (r : Rc) : Bool := recB r && (decide (r.1 = h - 1) && (decide (r.2.2.1 = l) && chkR p r))

def hasR (p : Int) (h l : Int) (rs : List Rc) : Bool := rs.any (saysR p h l)

def firstNo (l : Int) (rs : List Rc) : List Int → Nat → Nat
  | [], h => h
  | p :: ps, h => if hasR p h l rs = true then firstNo l rs ps (h + 1) else h

def firstN (ps : List Int) (l : Int) (rs : List Rc) : Nat := firstNo l rs ps 0

def pubsB (ps : List Int) : Bool := decide (1 ≤ ps.length ∧ ps.length ≤ 6) && ps.all memB

def traceB (ps : List Int) (l : Int) (rs : List Rc) : Bool := pubsB ps && (letB l && decide (rs.length ≤ 40))

def blameI (ps : List Int) (l : Int) (rs : List Rc) : Int := if traceB ps l rs = true then (firstN ps l rs : Int) - 1 else 0

def wholeB (ps : List Int) (l : Int) (rs : List Rc) : Bool := traceB ps l rs && decide (firstN ps l rs = ps.length)

def secsH (xs : List Int) : Bool := decide (1 ≤ xs.length ∧ xs.length ≤ 6) && xs.all secB6

def tripOk (xs : List Int) (l lo : Int) : Bool := secsH xs && (letB l && decide (-1 ≤ lo ∧ lo ≤ (xs.length : Int) - 1))

def atI (n : Nat) (lo : Int) : Int := if lo = -1 then (n : Int) - 1 else lo

def handsL (m : Nat) : List Int := (List.range m).map fun h : Nat => (h : Int)

def recsL (xs : List Int) (l : Int) (m : Nat) : List Rc := (List.range m).map fun h : Nat => signR (xs.getD h 0) ((h : Int) - 1) l

def gaveL (h : Int) (rs : List Rc) : List Rc := rs.filter fun r => decide (r.1 = h)

theorem numR_bd {f l : Int} : 0 ≤ numR f l ∧ numR f l < 1499 := by unfold numR; omega

theorem signN_bd {s f l : Int} : 0 ≤ signN s f l ∧ signN s f l < 1499 := by unfold signN; omega

theorem handsL_succ (m : Nat) : handsL (m + 1) = handsL m ++ [(m : Int)] := by simp [handsL, List.range_succ]

theorem handsL_length (m : Nat) : (handsL m).length = m := by simp [handsL]

theorem recsL_succ (xs : List Int) (l : Int) (m : Nat) : recsL xs l (m + 1) = recsL xs l m ++ [signR (xs.getD m 0) ((m : Int) - 1) l] := by simp [recsL, List.range_succ]

theorem recsL_length (xs : List Int) (l : Int) (m : Nat) : (recsL xs l m).length = m := by simp [recsL]

theorem firstNo_ge (l : Int) (rs : List Rc) : ∀ (ps : List Int) (h : Nat), h ≤ firstNo l rs ps h
  | [], h => Nat.le_refl _
  | p :: ps, h => by
    unfold firstNo
    split
    · exact Nat.le_trans (Nat.le_succ _) (firstNo_ge l rs ps (h + 1))
    · exact Nat.le_refl _

theorem firstNo_le (l : Int) (rs : List Rc) : ∀ (ps : List Int) (h : Nat), firstNo l rs ps h ≤ h + ps.length
  | [], h => Nat.le_refl _
  | p :: ps, h => by
    unfold firstNo
    split
    · have := firstNo_le l rs ps (h + 1)
      simp only [List.length_cons]; omega
    · omega

/-- The hands up to k have a receipt each: the search goes on from k. -/
theorem firstNo_drop (l : Int) (rs : List Rc) : ∀ (ps : List Int) (h k : Nat), k ≤ ps.length → (∀ j, j < k → hasR (ps.getD j 0) ((h + j : Nat) : Int) l rs = true) → firstNo l rs ps h = firstNo l rs (ps.drop k) (h + k)
  | ps, h, 0, _, _ => by simp
  | [], h, k + 1, hk, _ => by simp at hk
  | p :: ps, h, k + 1, hk, ha => by
    have h0 := ha 0 (by omega)
    simp at h0
    rw [List.drop_succ_cons]
    show (if hasR p h l rs = true then firstNo l rs ps (h + 1) else h) = _
    rw [if_pos h0, firstNo_drop l rs ps (h + 1) k (by simpa using hk) (fun j hj => by
      have := ha (j + 1) (by omega)
      rw [show h + (j + 1) = h + 1 + j by omega] at this
      simpa using this)]
    rw [show h + 1 + k = h + (k + 1) by omega]

theorem firstN_no {ps : List Int} {l : Int} {rs : List Rc} {k : Nat} (hk : k < ps.length) (ha : ∀ j, j < k → hasR (ps.getD j 0) (j : Int) l rs = true) (hn : hasR (ps.getD k 0) (k : Int) l rs = false) : firstN ps l rs = k := by
  unfold firstN
  rw [firstNo_drop l rs ps 0 k (by omega) (fun j hj => by rw [Nat.zero_add]; exact ha j hj), List.drop_eq_getElem_cons hk]
  show (if hasR ps[k] ((0 + k : Nat) : Int) l rs = true then _ else _) = k
  have e : ps.getD k 0 = ps[k] := by simp [List.getD, hk]
  rw [e] at hn
  rw [Nat.zero_add, if_neg (by rw [hn]; decide)]

theorem firstN_all {ps : List Int} {l : Int} {rs : List Rc} (ha : ∀ j, j < ps.length → hasR (ps.getD j 0) (j : Int) l rs = true) : firstN ps l rs = ps.length := by
  unfold firstN
  rw [firstNo_drop l rs ps 0 ps.length (Nat.le_refl _) (fun j hj => by rw [Nat.zero_add]; exact ha j hj), List.drop_length, Nat.zero_add]
  rfl

theorem firstN_le (ps : List Int) (l : Int) (rs : List Rc) : firstN ps l rs ≤ ps.length := by
  have := firstNo_le l rs ps 0
  unfold firstN; omega

theorem hasR_take {p h l : Int} {rs : List Rc} (k : Nat) (hk : k < rs.length) (hn : hasR p h l (rs.take k) = false) (hs : saysR p h l (rs.getD k (0, 0, 0, 0)) = false) : hasR p h l (rs.take (k + 1)) = false := by
  unfold hasR at hn ⊢
  rw [List.take_succ_eq_append_getElem hk, List.any_append, hn]
  have e : rs.getD k (0, 0, 0, 0) = rs[k] := by simp [List.getD, hk]
  rw [e] at hs
  simp [hs]

theorem hasR_at {p h l : Int} {rs : List Rc} {k : Nat} (hk : k < rs.length) (hs : saysR p h l (rs.getD k (0, 0, 0, 0)) = true) : hasR p h l rs = true := by
  unfold hasR
  rw [List.any_eq_true]
  refine ⟨rs.getD k (0, 0, 0, 0), ?_, hs⟩
  simp only [List.getD, List.getElem?_eq_getElem hk, Option.getD_some]; exact List.getElem_mem _

/-- What the program looks at: a right receipt that is the one for that hand and letter. -/
theorem says_eq {p h l : Int} (hp : memB p = true) (r : Rc) : (rightB p r && (decide (r.1 = h - 1) && (decide (r.2.1 = h) && decide (r.2.2.1 = l)))) = saysR p h l r := by
  obtain ⟨a, b, c, d⟩ := r
  unfold rightB checkB saysR
  rw [hp]
  by_cases h1 : recB (a, b, c, d) = true
  · have h2 : b = a + 1 := by
      have h3 := h1
      simp [recB] at h3
      exact h3.2.1
    rw [h1]
    by_cases h4 : a = h - 1
    · have e : b = h := by omega
      by_cases h5 : c = l
      · simp [h4, e, h5]
      · simp [h4, h5]
    · simp [h4]
  · rw [Bool.not_eq_true] at h1
    rw [h1]; simp

theorem sign_rec {s f l : Int} (hf : -1 ≤ f ∧ f ≤ 4) (hl : letB l = true) : recB (signR s f l) = true := by
  have h1 := signN_bd (s := s) (f := f) (l := l)
  have h2 : signN s f l ≤ 1498 := by omega
  simp [recB, signR, hl, hf, h1.1, h2]

theorem pw_mod (k : Nat) : pw 4 (k % 1499) = pw 4 k := by
  conv => rhs; rw [← Nat.div_add_mod k 1499]
  rw [← pw_add, ← pw_pw, pw_root, pw_one, one_mulM (pw_bd _ _)]

theorem toNat_mulmod {a b : Int} (ha : 0 ≤ a) (hb : 0 ≤ b) : (a * b % 1499).toNat = a.toNat * b.toNat % 1499 := by
  obtain ⟨x, rfl⟩ := Int.eq_ofNat_of_zero_le ha
  obtain ⟨y, rfl⟩ := Int.eq_ofNat_of_zero_le hb
  simp only [Int.ofNat_eq_natCast, Int.toNat_natCast]
  rw [← Int.natCast_mul]
  omega

/-- A hand's own receipt is right with its public part. -/
theorem sign_chk {s f l : Int} (hs : 0 ≤ s) : chkR (pw 4 s.toNat) (signR s f l) = true := by
  unfold chkR signR signN
  rw [beq_iff_eq]
  show pw 4 (numR f l * s % 1499).toNat = pw (pw 4 s.toNat) (numR f l).toNat
  rw [toNat_mulmod numR_bd.1 hs, pw_mod, pw_pw, Nat.mul_comm]

end Go.Proofs.YtdhnolafkgkliaaDoor
