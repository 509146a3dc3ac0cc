/- Chapter 6, the program's side where the table is met: keys, votes. What a poll answers. -/
import Derived.Test.YtobomcmjilcnaaaDoorI6O
namespace Go.Proofs.YtobomcmjilcnaaaDoor
set_option linter.unusedVariables false
set_option maxRecDepth 1000000
set_option linter.unusedSimpArgs false
open Go.RowKit

theorem rootL_length (xs : List Int) : (rootL xs).length = xs.length := by simp [rootL]
theorem rootL_bd (xs : List Int) : ∀ v ∈ rootL xs, 0 ≤ v ∧ v < 2999 := fun v hv => by
  obtain ⟨s, _, rfl⟩ := List.mem_map.1 hv
  exact pw_bd _ _

set_option maxHeartbeats 1000000 in
theorem implKey_c (ao : Option Addr) (n c : Nat) (xs : List Int) (w : World) (hx : xs.length = n) (hn : n ≤ 17592186044416) (hr : Rd w ao xs) (ht : Tab w) :
    Calls Tryd.prog 10 #[.slice ao n c] w fun e w' => e = .returned (.tuple #[.int .i64 (if secsB xs = true then keyI xs else 0), .bool (secsB xs)]) ∧ Below w.heap.size w w' := by
  have h1 := areSecrets_c ao n c xs w hx hn hr
  cases hb : secsB xs
  · rw [hb] at h1
    clear hr hx hb ht
    simp only [Bool.false_eq_true, if_false]
    go_enter Tryd.func10, Tryd.ntmps10
    go_wp2_with fail
    refine h1.mono ?_
    clear h1
    rintro e w' ⟨rfl, hw⟩
    subst w'
    go_wp2
    refine bodyPost_ret (v := .tuple #[.int .i64 0, .bool false]) (by simp [results, Tryd.results10, go_sem]; try rfl) rfl ?_
    exact ⟨rfl, Below.refl _ _⟩
  · rw [hb] at h1
    have h2 := eachRoot_c ao n c xs w hx hn hr (secs_all hb) ht
    have h3 := fun wx a' c' h => productI_c a' n c' (rootL xs) wx (by rw [rootL_length]; exact hx) hn h (rootL_bd xs)
    rw [show prodM 1 (rootL xs) = keyI xs from rfl] at h3
    simp only [if_true]
    generalize keyI xs = y at h3 ⊢
    have H3 : Hid (∀ wx a' c', Rd wx a' (rootL xs) → Calls Tryd.prog 33 #[.slice a' n c', .int .i64 1, .func (.func 36) #[] #[]] wx fun e w' => e = .returned (.int .i64 y) ∧ w' = wx) := h3
    clear hr hx hb h3 ht
    go_enter Tryd.func10, Tryd.ntmps10
    go_wp2_with fail
    refine h1.mono ?_
    clear h1
    rintro e w' ⟨rfl, hw⟩
    subst w'
    go_wp2_with fail
    refine h2.mono ?_
    clear h2
    rintro e w1 ⟨a', c', rfl, ho, hb⟩
    have HB : Hid (Below w.heap.size w w1) := hb
    have HO : Hid (Rd w1 a' (rootL xs)) := ho.rd'.2
    clear hb ho
    go_wp2_with fail
    refine (H3.out _ _ _ HO.out).mono ?_
    rintro e w' ⟨rfl, hw⟩
    subst w'
    go_wp2
    refine bodyPost_ret (v := .tuple #[.int .i64 y, .bool true]) (by simp [results, Tryd.results10, go_sem]; try rfl) rfl ?_
    exact ⟨rfl, HB.out⟩

set_option maxHeartbeats 1000000 in
theorem implVote_c (p n c : Int) (w : World) (ht : Tab w) : Calls Tryd.prog 11 #[.int .i64 p, .int .i64 n, .int .i64 c] w fun e w' => e = .returned (.tuple #[.agg #[.int .i64 (voteX p n c), .int .i64 (voteY p n c)], .bool (voteB p n c)]) ∧ Below w.heap.size w w' := by
  by_cases hc0 : c < 0
  · have hd : decide (0 ≤ c ∧ c ≤ 3) = false := decide_eq_false (by omega)
    have hb : voteB p n c = false := by simp only [voteB, hd, Bool.false_and]
    have hX : voteX p n c = 0 := by simp only [voteX, hb, Bool.false_eq_true, if_false]
    have hY : voteY p n c = 0 := by simp only [voteY, hb, Bool.false_eq_true, if_false]
    rw [hb, hX, hY]
    clear hb hX hY hd
    go_enter Tryd.func11, Tryd.ntmps11
    go_wp2
    refine bodyPost_ret (v := .tuple #[.agg #[.int .i64 0, .int .i64 0], .bool false]) (by simp [results, Tryd.results11, go_sem]; try rfl) rfl ?_
    refine ⟨rfl, ?_⟩
    first | exact below_one _ _ | exact ((below_one _ _).setCell (by simp) _).setCell (by simp) _
  · by_cases hc1 : 3 < c
    · have hd : decide (0 ≤ c ∧ c ≤ 3) = false := decide_eq_false (by omega)
      have hb : voteB p n c = false := by simp only [voteB, hd, Bool.false_and]
      have hX : voteX p n c = 0 := by simp only [voteX, hb, Bool.false_eq_true, if_false]
      have hY : voteY p n c = 0 := by simp only [voteY, hb, Bool.false_eq_true, if_false]
      rw [hb, hX, hY]
      clear hb hX hY hd
      go_enter Tryd.func11, Tryd.ntmps11
      go_wp2
      refine bodyPost_ret (v := .tuple #[.agg #[.int .i64 0, .int .i64 0], .bool false]) (by simp [results, Tryd.results11, go_sem]; try rfl) rfl ?_
      refine ⟨rfl, ?_⟩
      first | exact below_one _ _ | exact ((below_one _ _).setCell (by simp) _).setCell (by simp) _
    · have hd : decide (0 ≤ c ∧ c ≤ 3) = true := decide_eq_true (by omega)
      obtain ⟨q, rfl⟩ : ∃ q : Nat, c = q := ⟨c.toNat, by omega⟩
      have hs := fun wx (h : Tab wx) => implNumber_c p n (pw 4 q) wx h
      have hB : againB p n 1 (pw 4 q) = voteB p n q := by rw [again_vote]; simp only [voteB, hd, Bool.true_and]
      have hX : (if againB p n 1 (pw 4 q) = true then 1 * pw 4 n.toNat % 2999 else 0) = voteX p n q := by rw [hB]; rfl
      have hY : (if againB p n 1 (pw 4 q) = true then pw 4 q * pw p n.toNat % 2999 else 0) = voteY p n q := by rw [hB]; simp only [voteY, voteP, Int.toNat_natCast, mulM]
      rw [hX, hY, hB] at hs
      have HP : Hid (∀ wx, Tab wx → Calls Tryd.prog 35 #[.int .i64 q] wx fun e w' => e = .returned (.int .i64 (pw 4 q)) ∧ w' = wx) := fun wx h => rootTo_c q wx (by omega) h
      generalize voteX p n q = x at hs ⊢
      generalize voteY p n q = y at hs ⊢
      generalize voteB p n q = b at hs ⊢
      clear hX hY hB hd
      generalize pw 4 q = m at hs HP
      have HS : Hid (∀ wx, Tab wx → Calls Tryd.prog 37 #[.int .i64 p, .int .i64 n, .int .i64 m] wx fun e w' => e = .returned (.tuple #[.agg #[.int .i64 x, .int .i64 y], .bool b]) ∧ Below wx.heap.size wx w') := hs
      have HT : Hid (Tab (w.alloc (Obj.cells #[Value.int .i64 0, Value.int .i64 0] 31))) := ht.keep (below_one _ _)
      clear hs ht
      go_enter Tryd.func11, Tryd.ntmps11
      go_wp2_with (first | (go_at_call 35; refine (HP.out _ HT.out).mono ?_; rintro e w' ⟨rfl, hw⟩; subst w') | (go_at_call 37; refine (HS.out _ HT.out).mono ?_; rintro e w1 ⟨rfl, hb⟩; have HB1 : Hid (Below w.heap.size w w1) := (below_one w _).trans (hb.mono (by simp)); have c0 := (c2_new w 0 0 31 w.heap.size rfl).keep hb; obtain ⟨c1, c2, c3, c4⟩ := c0; clear hb))
      refine bodyPost_ret (v := .tuple #[.agg #[.int .i64 x, .int .i64 y], .bool b]) (by simp [results, Tryd.results11, go_sem, c1, c2]; try rfl) rfl ?_
      exact ⟨rfl, (HB1.out.setCell (p := ⟨w.heap.size, 0, none⟩) (Nat.le_refl _) _).setCell (p := ⟨w.heap.size, 1, none⟩) (Nat.le_refl _) _⟩

/-- What a poll wants, and answers. -/
def pollV (secs ns cs : List Int) : List (Int × Int) := pollL (keyI secs) (ns.zip cs)
def pollOk (secs ns cs : List Int) : Bool := secsB secs && decide (ns.length = cs.length) && decide (ns.length ≤ 12) && pollB (keyI secs) (ns.zip cs)
def pollM (secs ns cs : List Int) : Int := openI (addX (pollV secs ns cs)) (addY (pollV secs ns cs)) secs
def countI (secs ns cs : List Int) : Int := if pollOk secs ns cs = true then logI (pollM secs ns cs) 100 else 0
def countB (secs ns cs : List Int) : Bool := pollOk secs ns cs && logB (pollM secs ns cs) 100
theorem count_no {secs ns cs : List Int} (h : pollOk secs ns cs = false) : countI secs ns cs = 0 ∧ countB secs ns cs = false := by
  simp only [countI, countB, h, Bool.false_and, Bool.false_eq_true, if_false, and_self]
theorem count_yes {secs ns cs : List Int} (h : pollOk secs ns cs = true) : countI secs ns cs = logI (pollM secs ns cs) 100 ∧ countB secs ns cs = logB (pollM secs ns cs) 100 := by
  simp only [countI, countB, h, Bool.true_and, if_true, and_self]
theorem zip_getD {ns cs : List Int} {k : Nat} (h1 : k < ns.length) (h2 : k < cs.length) : (ns.zip cs).getD k (0, 0) = (ns.getD k 0, cs.getD k 0) := by
  have h : k < (ns.zip cs).length := by rw [List.length_zip]; omega
  simp [List.getD, List.getElem?_eq_getElem h, h1, h2]
theorem pollV_length {secs ns cs : List Int} (h : ns.length = cs.length) : (pollV secs ns cs).length = ns.length := by
  simp only [pollV, pollL, List.length_map, List.length_zip]; omega
theorem pollL_snoc (p : Int) {l : List (Int × Int)} {k : Nat} (h : k < l.length) : pollL p (l.take (k + 1)) = pollL p (l.take k) ++ [voteP p (l.getD k (0, 0)).1 (l.getD k (0, 0)).2] := by
  rw [take_snocP h, pollL, List.map_append, List.map_singleton]
  rfl
theorem pollV_seal (secs ns cs : List Int) : ∀ p ∈ pollV secs ns cs, sealB p.1 p.2 = true := fun p hp => by
  obtain ⟨q, _, rfl⟩ := List.mem_map.1 hp
  exact vote_seal (keyI_mem secs)
theorem pollV_add {secs ns cs : List Int} (h : ns.length = cs.length) (h12 : ns.length ≤ 12) : addB (pollV secs ns cs) = true := by
  unfold addB
  rw [Bool.and_eq_true, decide_eq_true_eq, pollV_length h]
  exact ⟨h12, List.all_eq_true.2 (pollV_seal secs ns cs)⟩
theorem pollV_sum (secs ns cs : List Int) : sealB (addX (pollV secs ns cs)) (addY (pollV secs ns cs)) = true := add_seal (pollV_seal secs ns cs)
theorem pollV_sumOk {secs : List Int} (ns cs : List Int) (h : secsB secs = true) : sumOk (addX (pollV secs ns cs)) (addY (pollV secs ns cs)) (partL (addX (pollV secs ns cs)) secs) = true := by
  have hs := pollV_sum secs ns cs
  have hx : memB (addX (pollV secs ns cs)) = true := by have := hs; simp only [sealB, Bool.and_eq_true] at this; exact this.1
  have hm : memsB (partL (addX (pollV secs ns cs)) secs) = true := List.all_eq_true.2 (partL_mem hx secs)
  have hl : decide ((partL (addX (pollV secs ns cs)) secs).length ≤ 5) = true := decide_eq_true (by rw [partL_length]; exact (secs_len h).2)
  simp only [sumOk, hs, hm, hl, Bool.and_self]
theorem vote_yes {p n c : Int} (h : voteB p n c = true) : voteX p n c = (voteP p n c).1 ∧ voteY p n c = (voteP p n c).2 := by
  simp only [voteX, voteY, h, if_true, and_self]

theorem cell_new2g (w : World) (u v : Value) (t : TypeId) (g : Nat) (hg : g = w.heap.size) : ∀ j x, [u, v][j]? = some x → (w.alloc (.cells #[u, v] t)).cell? ((⟨g, 0, none⟩ : Addr).add j) = some x := by
  subst hg
  intro j x hj
  match j with
  | 0 => simp at hj; subst hj; rw [Go.WideShapes.add_plain]; simp
  | 1 => simp at hj; subst hj; rw [Go.WideShapes.add_plain]; simp
  | j + 2 => simp at hj

end Go.Proofs.YtobomcmjilcnaaaDoor
