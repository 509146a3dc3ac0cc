/- Chapter 6, the program's side where the table is met: keys, votes. What a poll answers. -/
import Derived.Test.YtobomcmjilcnaaaI6O
namespace Go.Proofs.Ytobomcmjilcnaaa
set_option linter.unusedVariables false
set_option maxRecDepth 1000000
set_option linter.unusedSimpArgs false
open Go.RowKit

theorem rootL_length (xs : List Int) : (rootL xs).length = xs.length := by simp [rootL]
theorem rootL_bd (xs : List Int) : ∀ v ∈ rootL xs, 0 ≤ v ∧ v < 2999 := fun v hv => by
  obtain ⟨s, _, rfl⟩ := List.mem_map.1 hv
  exact pw_bd _ _

/-- What a poll wants, and answers. -/
def pollV (secs ns cs : List Int) : List (Int × Int) := pollL (keyI secs) (ns.zip cs)
def pollOk (secs ns cs : List Int) : Bool := secsB secs && decide (ns.length = cs.length) && decide (ns.length ≤ 12) && pollB (keyI secs) (ns.zip cs)
def pollM (secs ns cs : List Int) : Int := openI (addX (pollV secs ns cs)) (addY (pollV secs ns cs)) secs
def countI (secs ns cs : List Int) : Int := if pollOk secs ns cs = true then logI (pollM secs ns cs) 100 else 0
def countB (secs ns cs : List Int) : Bool := pollOk secs ns cs && logB (pollM secs ns cs) 100
theorem count_no {secs ns cs : List Int} (h : pollOk secs ns cs = false) : countI secs ns cs = 0 ∧ countB secs ns cs = false := by
  simp only [countI, countB, h, Bool.false_and, Bool.false_eq_true, if_false, and_self]
theorem count_yes {secs ns cs : List Int} (h : pollOk secs ns cs = true) : countI secs ns cs = logI (pollM secs ns cs) 100 ∧ countB secs ns cs = logB (pollM secs ns cs) 100 := by
  simp only [countI, countB, h, Bool.true_and, if_true, and_self]
theorem zip_getD {ns cs : List Int} {k : Nat} (h1 : k < ns.length) (h2 : k < cs.length) : (ns.zip cs).getD k (0, 0) = (ns.getD k 0, cs.getD k 0) := by
  have h : k < (ns.zip cs).length := by rw [List.length_zip]; omega
  simp [List.getD, List.getElem?_eq_getElem h, h1, h2]
theorem pollV_length {secs ns cs : List Int} (h : ns.length = cs.length) : (pollV secs ns cs).length = ns.length := by
  simp only [pollV, pollL, List.length_map, List.length_zip]; omega
theorem pollL_snoc (p : Int) {l : List (Int × Int)} {k : Nat} (h : k < l.length) : pollL p (l.take (k + 1)) = pollL p (l.take k) ++ [voteP p (l.getD k (0, 0)).1 (l.getD k (0, 0)).2] := by
  rw [take_snocP h, pollL, List.map_append, List.map_singleton]
  rfl
theorem pollV_seal (secs ns cs : List Int) : ∀ p ∈ pollV secs ns cs, sealB p.1 p.2 = true := fun p hp => by
  obtain ⟨q, _, rfl⟩ := List.mem_map.1 hp
  exact vote_seal (keyI_mem secs)
theorem pollV_add {secs ns cs : List Int} (h : ns.length = cs.length) (h12 : ns.length ≤ 12) : addB (pollV secs ns cs) = true := by
  unfold addB
  rw [Bool.and_eq_true, decide_eq_true_eq, pollV_length h]
  exact ⟨h12, List.all_eq_true.2 (pollV_seal secs ns cs)⟩
theorem pollV_sum (secs ns cs : List Int) : sealB (addX (pollV secs ns cs)) (addY (pollV secs ns cs)) = true := add_seal (pollV_seal secs ns cs)
theorem pollV_sumOk {secs : List Int} (ns cs : List Int) (h : secsB secs = true) : sumOk (addX (pollV secs ns cs)) (addY (pollV secs ns cs)) (partL (addX (pollV secs ns cs)) secs) = true := by
  have hs := pollV_sum secs ns cs
  have hx : memB (addX (pollV secs ns cs)) = true := by have := hs; simp only [sealB, Bool.and_eq_true] at this; exact this.1
  have hm : memsB (partL (addX (pollV secs ns cs)) secs) = true := List.all_eq_true.2 (partL_mem hx secs)
  have hl : decide ((partL (addX (pollV secs ns cs)) secs).length ≤ 5) = true := decide_eq_true (by rw [partL_length]; exact (secs_len h).2)
  simp only [sumOk, hs, hm, hl, Bool.and_self]
theorem vote_yes {p n c : Int} (h : voteB p n c = true) : voteX p n c = (voteP p n c).1 ∧ voteY p n c = (voteP p n c).2 := by
  simp only [voteX, voteY, h, if_true, and_self]

theorem cell_new2g (w : World) (u v : Value) (t : TypeId) (g : Nat) (hg : g = w.heap.size) : ∀ j x, [u, v][j]? = some x → (w.alloc (.cells #[u, v] t)).cell? ((⟨g, 0, none⟩ : Addr).add j) = some x := by
  subst hg
  intro j x hj
  match j with
  | 0 => simp at hj; subst hj; rw [Go.WideShapes.add_plain]; simp
  | 1 => simp at hj; subst hj; rw [Go.WideShapes.add_plain]; simp
  | j + 2 => simp at hj

end Go.Proofs.Ytobomcmjilcnaaa
