/- Plain facts of chapter 6: products modulo 2999, logs, sums of sealed numbers, polls. -/
import Derived.Test.YtdhnolafkgkliaaDoorPwSpec2
namespace Go.Proofs.YtdhnolafkgkliaaDoor
set_option linter.unusedVariables false
set_option maxRecDepth 1000000
set_option linter.unusedSimpArgs false

def ferm (e : Nat) : Nat → Bool
  | 0 => true
  | k + 1 => ((k + 1) ^ e % 2999 == 1) && ferm e k
theorem ferm_ok : ferm 2998 2998 = true := by decide +kernel
theorem ferm_at {e : Nat} : ∀ {K n : Nat}, ferm e K = true → 1 ≤ n → n ≤ K → n ^ e % 2999 = 1
  | 0, n, _, h1, h2 => by omega
  | K + 1, n, h, h1, h2 => by
    simp only [ferm, Bool.and_eq_true, beq_iff_eq] at h
    by_cases e : n = K + 1
    · rw [e]; exact h.1
    · exact ferm_at h.2 h1 (by omega)

theorem pw_nat (k e : Nat) : pw (k : Int) e = ((k ^ e % 2999 : Nat) : Int) := by
  unfold pw
  simp

theorem pw_ferm {n : Int} (h1 : 1 ≤ n) (h2 : n ≤ 2998) : pw n 2998 = 1 := by
  obtain ⟨k, rfl⟩ : ∃ k : Nat, n = k := ⟨n.toNat, by omega⟩
  rw [pw_nat, ferm_at (n := k) ferm_ok (by omega) (by omega)]
  rfl

theorem pw_step (n : Int) (k : Nat) : n * pw n k % 2999 = pw n (k + 1) := by
  unfold pw
  rw [Int.mul_emod, Int.emod_emod, ← Int.mul_emod, Int.pow_succ, Int.mul_comm]

theorem pw_inv {n : Int} (h1 : 1 ≤ n) (h2 : n ≤ 2998) : n * pw n 2997 % 2999 = 1 := (pw_step n 2997).trans (pw_ferm h1 h2)

theorem pw_pw (a : Int) (j k : Nat) : pw (pw a j) k = pw a (j * k) := by
  unfold pw
  rw [emod_pow, ← Int.pow_mul]
theorem pw_comm (a : Int) (j k : Nat) : pw (pw a j) k = pw (pw a k) j := by
  rw [pw_pw, pw_pw, Nat.mul_comm]
theorem pw_one (k : Nat) : pw 1 k = 1 := by unfold pw; rw [Int.one_pow]; rfl
theorem pw_root : pw 4 1499 = 1 := by decide +kernel

theorem mem_of_pow {a : Int} (h0 : 0 ≤ a) (h1 : a < 2999) (h : pw a 1499 = 1) : memB a = true := by
  have ha : a ≠ 0 := fun e => by subst e; revert h; decide +kernel
  simp only [memB, Bool.and_eq_true, decide_eq_true_eq, beq_iff_eq]
  exact ⟨by omega, h⟩

theorem mem_pw4 (k : Nat) : memB (pw 4 k) = true := mem_of_pow (pw_lo _ _) (pw_hi _ _) (by rw [pw_comm, pw_root, pw_one])
theorem mem_pw {a : Int} (h : memB a = true) (k : Nat) : memB (pw a k) = true := mem_of_pow (pw_lo _ _) (pw_hi _ _) (by
  have h1 : pw a 1499 = 1 := by simp only [memB, Bool.and_eq_true, beq_iff_eq] at h; exact h.2
  rw [pw_comm, h1, pw_one])

theorem pw_mul (a b : Int) (k : Nat) : pw (a * b % 2999) k = pw a k * pw b k % 2999 := by
  unfold pw
  rw [emod_pow, Int.mul_pow, Int.mul_emod]

theorem mem_mul {a b : Int} (ha : memB a = true) (hb : memB b = true) : memB (a * b % 2999) = true := by
  have h1 : pw a 1499 = 1 := by simp only [memB, Bool.and_eq_true, beq_iff_eq] at ha; exact ha.2
  have h2 : pw b 1499 = 1 := by simp only [memB, Bool.and_eq_true, beq_iff_eq] at hb; exact hb.2
  exact mem_of_pow (Int.emod_nonneg _ (by omega)) (Int.emod_lt_of_pos _ (by omega)) (by rw [pw_mul, h1, h2]; rfl)

/-- A product modulo the great prime. -/
def mulM (a b : Int) : Int := a * b % 2999
theorem mulM_lo (a b : Int) : 0 ≤ mulM a b := Int.emod_nonneg _ (by decide)
theorem mulM_hi (a b : Int) : mulM a b < 2999 := Int.emod_lt_of_pos _ (by decide)
theorem mulM_bd (a b : Int) : 0 ≤ mulM a b ∧ mulM a b < 2999 := ⟨mulM_lo a b, mulM_hi a b⟩
theorem mulM_comm (a b : Int) : mulM a b = mulM b a := by unfold mulM; rw [Int.mul_comm]
theorem mulM_assoc (a b c : Int) : mulM (mulM a b) c = mulM a (mulM b c) := by
  unfold mulM
  rw [Int.mul_emod, Int.emod_emod, ← Int.mul_emod, Int.mul_emod a, Int.emod_emod, ← Int.mul_emod, Int.mul_assoc]
theorem mulM_one {a : Int} (h : 0 ≤ a ∧ a < 2999) : mulM a 1 = a := by unfold mulM; omega
theorem one_mulM {a : Int} (h : 0 ≤ a ∧ a < 2999) : mulM 1 a = a := by unfold mulM; omega
theorem mem_bd {a : Int} (h : memB a = true) : 0 ≤ a ∧ a < 2999 := by have := memB_in h; omega
theorem pw_bd (a : Int) (k : Nat) : 0 ≤ pw a k ∧ pw a k < 2999 := ⟨pw_lo a k, pw_hi a k⟩
theorem pw_add (a : Int) (j k : Nat) : mulM (pw a j) (pw a k) = pw a (j + k) := by
  unfold mulM pw
  rw [← Int.mul_emod, Int.pow_add]
theorem pw_mulM (a b : Int) (k : Nat) : pw (mulM a b) k = mulM (pw a k) (pw b k) := pw_mul a b k
theorem pw_zero (a : Int) : pw a 0 = 1 := by simp [pw]

/-- The product of a list, from n on. -/
def prodM (n : Int) (l : List Int) : Int := l.foldl mulM n
theorem prodM_nil (n : Int) : prodM n [] = n := rfl
theorem prodM_cons (n x : Int) (l : List Int) : prodM n (x :: l) = prodM (mulM n x) l := rfl
theorem prodM_snoc (n x : Int) (l : List Int) : prodM n (l ++ [x]) = mulM (prodM n l) x := by simp [prodM]
theorem prodM_bd : ∀ {n : Int} (l : List Int), (0 ≤ n ∧ n < 2999) → 0 ≤ prodM n l ∧ prodM n l < 2999
  | _, [], h => h
  | _, _ :: l, _ => prodM_bd l (mulM_bd _ _)
theorem prodM_mem : ∀ {n : Int} {l : List Int}, memB n = true → (∀ x ∈ l, memB x = true) → memB (prodM n l) = true
  | _, [], h, _ => h
  | n, x :: l, h, hl => prodM_mem (n := mulM n x) (mem_mul h (hl x (by simp))) (fun y hy => hl y (by simp [hy]))
theorem prodM_out : ∀ {n : Int} (l : List Int), (0 ≤ n ∧ n < 2999) → prodM n l = mulM n (prodM 1 l)
  | n, [], h => (mulM_one h).symm
  | n, x :: l, h => by
    rw [prodM_cons, prodM_cons, prodM_out l (mulM_bd n x), prodM_out l (mulM_bd 1 x), mulM_assoc, mulM_assoc 1, one_mulM (mulM_bd _ _)]
theorem pw_prodM (k : Nat) : ∀ (n : Int) (l : List Int), pw (prodM n l) k = prodM (pw n k) (l.map fun x => pw x k)
  | _, [] => rfl
  | n, x :: l => by rw [prodM_cons, pw_prodM k _ l, List.map_cons, prodM_cons, pw_mulM]

/-- Divided by each part in turn is divided by all together. -/
theorem less_eq {b : Int} (h : 0 ≤ b ∧ b < 2999) (l : List Int) : prodM b (l.map fun x => pw x 2997) = mulM b (pw (prodM 1 l) 2997) := by
  rw [prodM_out _ h, pw_prodM, pw_one]

theorem take_snoc {xs : List Int} {k : Nat} (h : k < xs.length) : xs.take (k + 1) = xs.take k ++ [xs.getD k 0] := by
  rw [List.take_succ_eq_append_getElem h]; simp [List.getD, h]

/-- Secrets: one to five. -/
def secB6 (s : Int) : Bool := decide (1 ≤ s ∧ s ≤ 1498)
def secsB (l : List Int) : Bool := decide (1 ≤ l.length ∧ l.length ≤ 5) && l.all secB6
def rootL (l : List Int) : List Int := l.map fun s => pw 4 s.toNat
def partL (a : Int) (l : List Int) : List Int := l.map fun s => pw a s.toNat
def keyI (l : List Int) : Int := prodM 1 (rootL l)
theorem keyI_mem (l : List Int) : memB (keyI l) = true := prodM_mem (by decide +kernel) (fun x hx => by
  simp only [rootL, List.mem_map] at hx
  obtain ⟨s, _, rfl⟩ := hx
  exact mem_pw4 _)
theorem partL_mem {a : Int} (h : memB a = true) (l : List Int) : ∀ x ∈ partL a l, memB x = true := fun x hx => by
  simp only [partL, List.mem_map] at hx
  obtain ⟨s, _, rfl⟩ := hx
  exact mem_pw h _

/-- The least k from here on, within so many, for which Root to the k is m; or -1. -/
def logF (m : Int) : Nat → Nat → Int
  | _, 0 => -1
  | k, f + 1 => if pw 4 k = m then (k : Int) else logF m (k + 1) f
theorem logF_found {m : Int} : ∀ {k f : Nat}, 0 ≤ logF m k f → ∃ j : Nat, logF m k f = j ∧ j < k + f ∧ pw 4 j = m
  | _, 0, h => by simp [logF] at h
  | k, f + 1, h => by
    by_cases e : pw 4 k = m
    · exact ⟨k, by simp [logF, e], by omega, e⟩
    · rw [logF, if_neg e] at h ⊢
      obtain ⟨j, h1, h2, h3⟩ := logF_found h
      exact ⟨j, h1, by omega, h3⟩
theorem logF_lo (m : Int) : ∀ k f : Nat, -1 ≤ logF m k f
  | _, 0 => by simp [logF]
  | k, f + 1 => by
    have := logF_lo m (k + 1) f
    unfold logF
    split <;> omega
def logA (m most : Int) : Int := logF m 0 (most.toNat + 1)
def logB (m most : Int) : Bool := memB m && decide (0 ≤ most ∧ most ≤ 100) && decide (0 ≤ logA m most)
def logI (m most : Int) : Int := if logB m most = true then logA m most else 0

theorem logs_small : ∀ c : Nat, c < 37 → logA (pw 4 c) 100 = c := by decide +kernel
theorem log_small {c : Nat} (h : c < 37) : logB (pw 4 c) 100 = true ∧ logI (pw 4 c) 100 = c := by
  have h1 := logs_small c h
  have hb : logB (pw 4 c) 100 = true := by
    unfold logB
    rw [h1, mem_pw4]
    simp
  exact ⟨hb, by unfold logI; rw [if_pos hb, h1]⟩

/-- Sealed numbers, added. -/
def addB (l : List (Int × Int)) : Bool := decide (l.length ≤ 12) && l.all fun p => sealB p.1 p.2
def addX (l : List (Int × Int)) : Int := prodM 1 (l.map Prod.fst)
def addY (l : List (Int × Int)) : Int := prodM 1 (l.map Prod.snd)
theorem addX_bd (l : List (Int × Int)) : 0 ≤ addX l ∧ addX l < 2999 := prodM_bd _ (by omega)
theorem addY_bd (l : List (Int × Int)) : 0 ≤ addY l ∧ addY l < 2999 := prodM_bd _ (by omega)
theorem add_seal {l : List (Int × Int)} (h : ∀ p ∈ l, sealB p.1 p.2 = true) : sealB (addX l) (addY l) = true := by
  unfold sealB addX addY
  rw [prodM_mem (by decide +kernel) (fun x hx => ?_), prodM_mem (by decide +kernel) (fun x hx => ?_)]
  · rfl
  · obtain ⟨p, hp, rfl⟩ := List.mem_map.1 hx
    have := h p hp
    simp only [sealB, Bool.and_eq_true] at this
    exact this.2
  · obtain ⟨p, hp, rfl⟩ := List.mem_map.1 hx
    have := h p hp
    simp only [sealB, Bool.and_eq_true] at this
    exact this.1

/-- Opened by all parts. -/
def openI (x y : Int) (secs : List Int) : Int := mulM y (pw (prodM 1 (partL x secs)) 2997)

/-- A vote. -/
def voteB (p n c : Int) : Bool := decide (0 ≤ c ∧ c ≤ 3) && memB p && secB6 n
def voteP (p n c : Int) : Int × Int := (mulM 1 (pw 4 n.toNat), mulM (pw 4 c.toNat) (pw p n.toNat))
theorem vote_seal {p n c : Int} (h : memB p = true) : sealB (voteP p n c).1 (voteP p n c).2 = true := by
  unfold sealB voteP
  dsimp only
  rw [show memB (mulM 1 (pw 4 n.toNat)) = true from mem_mul (by decide +kernel) (mem_pw4 _), show memB (mulM (pw 4 c.toNat) (pw p n.toNat)) = true from mem_mul (mem_pw4 _) (mem_pw h _)]
  rfl

/-- All of a poll's choices. -/
def pollL (p : Int) (l : List (Int × Int)) : List (Int × Int) := l.map fun q => voteP p q.1 q.2
def pollB (p : Int) (l : List (Int × Int)) : Bool := l.all fun q => voteB p q.1 q.2

theorem prod_pw4 {α : Type} (f : α → Nat) : ∀ (a : Nat) (l : List α), prodM (pw 4 a) (l.map fun x => pw 4 (f x)) = pw 4 (a + (l.map f).sum)
  | a, [] => by simp [prodM]
  | a, x :: l => by
    rw [List.map_cons, prodM_cons, pw_add, prod_pw4 f _ l, List.map_cons, List.sum_cons]
    congr 1
    omega
theorem prod_pw4' {α : Type} (f : α → Nat) (l : List α) : prodM 1 (l.map fun x => pw 4 (f x)) = pw 4 (l.map f).sum := by
  have := prod_pw4 f 0 l
  rw [pw_zero, Nat.zero_add] at this
  exact this
theorem keyI_eq (l : List Int) : keyI l = pw 4 (l.map Int.toNat).sum := prod_pw4' Int.toNat l
theorem partL_eq (a : Nat) (l : List Int) : prodM 1 (partL (pw 4 a) l) = pw 4 (a * (l.map Int.toNat).sum) := by
  have h : partL (pw 4 a) l = l.map fun s => pw 4 (a * s.toNat) := by simp [partL, pw_pw]
  rw [h, prod_pw4' (fun s : Int => a * s.toNat) l]
  congr 1
  induction l with
  | nil => rfl
  | cons x l ih => simp only [List.map_cons, List.sum_cons, Nat.mul_add]; rw [ih (by simp [partL, pw_pw])]
theorem voteP_eq (S : Nat) (n c : Int) : voteP (pw 4 S) n c = (pw 4 n.toNat, pw 4 (c.toNat + S * n.toNat)) := by
  unfold voteP
  rw [one_mulM (pw_bd _ _), pw_pw, pw_add]
theorem sumN {α : Type} (f g : α → Nat) (S : Nat) : ∀ l : List α, (l.map fun q => f q + S * g q).sum = (l.map f).sum + S * (l.map g).sum
  | [] => by simp
  | x :: l => by simp only [List.map_cons, List.sum_cons, sumN f g S l, Nat.mul_add]; omega

/-- A poll that was added while sealed tells the sum of all choices. -/
theorem poll_tells (secs : List Int) (l : List (Int × Int)) : openI (addX (pollL (keyI secs) l)) (addY (pollL (keyI secs) l)) secs = pw 4 (l.map fun q => q.2.toNat).sum := by
  rw [keyI_eq]
  generalize hS : (secs.map Int.toNat).sum = S
  have e : pollL (pw 4 S) l = l.map fun q => (pw 4 q.1.toNat, pw 4 (q.2.toNat + S * q.1.toNat)) := by simp only [pollL, voteP_eq]
  have e1 : addX (pollL (pw 4 S) l) = pw 4 (l.map fun q => q.1.toNat).sum := by
    rw [e, addX, List.map_map]
    exact prod_pw4' (fun q : Int × Int => q.1.toNat) l
  have e2 : addY (pollL (pw 4 S) l) = pw 4 ((l.map fun q => q.2.toNat).sum + S * (l.map fun q => q.1.toNat).sum) := by
    rw [e, addY, List.map_map, ← sumN]
    exact prod_pw4' (fun q : Int × Int => q.2.toNat + S * q.1.toNat) l
  rw [openI, e1, e2, partL_eq, hS, pw_pw, pw_add, Nat.mul_comm (List.sum _) S]
  generalize (l.map fun q => q.2.toNat).sum = C
  generalize S * (l.map fun q => q.1.toNat).sum = K
  rw [show C + K + K * 2997 = C + 1499 * (2 * K) by omega, ← pw_add, ← pw_pw 4 1499, pw_root, pw_one, mulM_one (pw_bd _ _)]

/-- All together open what one with the whole key would. -/
theorem open_whole {x y : Int} (hx : memB x = true) (secs : List Int) : openI x y secs = mulM y (pw (pw x ((secs.map Int.toNat).sum % 1499)) 2997) := by
  have h1 : pw x 1499 = 1 := by simp only [memB, Bool.and_eq_true, beq_iff_eq] at hx; exact hx.2
  have hp : ∀ (a : Nat) (l : List Int), prodM (pw x a) (partL x l) = pw x (a + (l.map Int.toNat).sum) := by
    intro a l
    induction l generalizing a with
    | nil => simp [prodM, partL]
    | cons s l ih =>
      show prodM (mulM (pw x a) (pw x s.toNat)) (partL x l) = _
      rw [pw_add, ih, List.map_cons, List.sum_cons]
      congr 1
      omega
  have h2 := hp 0 secs
  rw [pw_zero, Nat.zero_add] at h2
  unfold openI
  rw [h2]
  generalize (secs.map Int.toNat).sum = S
  congr 2
  have e : S = 1499 * (S / 1499) + S % 1499 := by omega
  generalize S / 1499 = q at e
  generalize S % 1499 = r at e ⊢
  rw [e, ← pw_add, ← pw_pw, h1, pw_one, one_mulM (pw_bd _ _)]

end Go.Proofs.YtdhnolafkgkliaaDoor
