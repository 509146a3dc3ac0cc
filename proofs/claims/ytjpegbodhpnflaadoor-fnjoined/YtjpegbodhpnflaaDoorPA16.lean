/- Chapter 16: PlayAll of both sides. -/
import Derived.Test.YtjpegbodhpnflaaDoorA16
import Derived.Deep.AppendLies
import Derived.Lib.SliceRun
namespace Go.Proofs.YtjpegbodhpnflaaDoor
set_option linter.unusedVariables false
set_option maxRecDepth 1000000
set_option linter.unusedSimpArgs false
open Go.RowKit

/-- A number is put behind a row of numbers. -/
theorem pushC_run (w : World) (base : Nat) (v : Value) (xs : List Int) (x : Int) (hown : Own w base v xs) (hl : xs.length ≤ 1000) (hb : base ≤ w.heap.size) :
    ∃ g cap w', (∀ ty, (Builtin.append_ #[23, 23] ty #[v, .slice (some ⟨w.heap.size, 0, none⟩) 1 1]).run Tryd.prog (w.alloc (.cells #[.int .i64 x] 3)) = .ok (.slice (some ⟨g, 0, none⟩) (xs.length + 1) cap) w') ∧ Own w' base (.slice (some ⟨g, 0, none⟩) (xs.length + 1) cap) (xs ++ [x]) ∧ w.grownBy w' v.ownBlock ∧ (v.ownBlock = some g ∨ g = w.heap.size + 1) ∧ g < w'.heap.size := by
  obtain ⟨i0, hi, hz0, hz1, hz2⟩ := info_parts Tryd.infoInt
  have hsz : (w.alloc (.cells #[.int .i64 x] 3)).heap.size = w.heap.size + 1 := by simp
  have ho2 : Own (w.alloc (.cells #[.int .i64 x] 3)) base v xs := hown.later (balloc w _)
  have hnew : ∀ j u, ([Value.int .i64 x] : List Value)[j]? = some u → (w.alloc (.cells #[.int .i64 x] 3)).cell? ((⟨w.heap.size, 0, none⟩ : Addr).add j) = some u := cell_new1 w _ _
  obtain ⟨g, cap, w', hrun, how, hg, hgg, hlt⟩ := run_append_lies (P := Tryd.prog) (w := w.alloc (.cells #[.int .i64 x] 3)) 23 23 base 3 i0 (.int .i64 0) 1 8 Tryd.underlying23 hi hz0 hz1 hz2 rfl (by decide) v xs.length (cellsI xs) ho2 ⟨w.heap.size, 0, none⟩ 1 1 [.int .i64 x] rfl hnew (by intro y hy; simp at hy; subst hy; rfl) (by decide) (by unfold maxLen; omega) (by omega) (by omega) (w.heap.size + 1) hsz
  refine ⟨g, cap, w', fun ty => hrun, ?_, World.grownBy.trans (World.grownBy_alloc w _ _) hg, hgg, hlt⟩
  unfold Own
  rw [List.length_append, show cellsI (xs ++ [x]) = cellsI xs ++ [Value.int .i64 x] by simp [cellsI]]
  exact how

def allIn (lo hi : Int) (xs : List Int) : Bool := xs.all fun x => decide (lo ≤ x ∧ x ≤ hi)

set_option maxHeartbeats 1000000 in
theorem l1All_c (ao : Option Addr) (n c : Nat) (lo hi : Int) (xs : List Int) (w : World) (hx : xs.length = n) (hn : n ≤ 17592186044416) (hr : Rd w ao xs) :
    Calls Tryd.prog 57 #[.slice ao n c, .int .i64 lo, .int .i64 hi] w fun e w' => e = .returned (.bool (allIn lo hi xs)) ∧ w' = w := by
  have HX : Hid (xs.length = n) := hx
  have HR : Hid (Rd w ao xs) := hr
  have HF : Hid (∀ k, k < n → decide (lo ≤ xs.getD k 0 ∧ xs.getD k 0 ≤ hi) = false → allIn lo hi xs = false) := fun k hk h => all_out (d := 0) (p := fun x => decide (lo ≤ x ∧ x ≤ hi)) (by rw [hx]; exact hk) h
  have HE : Hid ((∀ j, j < n → decide (lo ≤ xs.getD j 0 ∧ xs.getD j 0 ≤ hi) = true) → allIn lo hi xs = true) := fun h => all_end (d := 0) (p := fun x => decide (lo ≤ x ∧ x ≤ hi)) (fun j hj => h j (by rw [hx] at hj; exact hj))
  generalize allIn lo hi xs = zb at HF HE ⊢
  clear hx hr
  go_enter Tryd.func57, Tryd.ntmps57
  go_wp2
  go_loop [11] (fun iv => ∃ (k : Nat), k ≤ n ∧ iv = .int .i64 k ∧ Hid (∀ j, j < k → decide (lo ≤ xs.getD j 0 ∧ xs.getD j 0 ≤ hi) = true)) (fun iv => n - (intOf iv).toNat)
  case atStart => exact ⟨0, Nat.zero_le _, rfl, fun j h => absurd h (by omega)⟩
  case round =>
    obtain ⟨k, hk, rfl, HS⟩ := hrel
    by_cases hlt : k < n
    · have hkl : k < xs.length := by rw [HX.out]; exact hlt
      obtain ⟨b, o, rfl, g1⟩ := HR.out.get hkl
      have h0 : (0 : Int) ≤ (k : Int) := by omega
      have hl : (k : Int) < (n : Int) := by omega
      have q := fun wx => l1In_c (xs.getD k 0) lo hi wx
      have hf := HF.out k hlt
      have hs : decide (lo ≤ xs.getD k 0 ∧ xs.getD k 0 ≤ hi) = true → ∀ j, j < k + 1 → decide (lo ≤ xs.getD j 0 ∧ xs.getD j 0 ≤ hi) = true := fun h j hj => by
        by_cases e : j = k
        · rw [e]; exact h
        · exact HS.out j (by omega)
      generalize decide (lo ≤ xs.getD k 0 ∧ xs.getD k 0 ≤ hi) = db at q hf hs
      generalize xs.getD k 0 = v at g1 q
      clear hkl
      cases db
      · have HN : Hid (zb = false) := hf rfl
        clear hf hs
        go_wp2_with fail
        refine (q _).mono ?_
        clear q
        rintro e w' ⟨rfl, hw⟩
        subst w'
        go_wp2
        go_ret
        exact ⟨ret_bool HN.out.symm, rfl⟩
      · have HS2 : Hid (∀ j, j < k + 1 → decide (lo ≤ xs.getD j 0 ∧ xs.getD j 0 ≤ hi) = true) := hs rfl
        clear hf hs
        go_wp2_with fail
        refine (q _).mono ?_
        clear q
        rintro e w' ⟨rfl, hw⟩
        subst w'
        go_wp2
        go_round
        case rel => exact ⟨k + 1, by omega, by go_num, HS2⟩
        case measure => simp [intOf]; omega
    · obtain rfl : k = n := by omega
      have HM : Hid (zb = true) := HE.out HS.out
      go_wp2
      go_ret
      exact ⟨ret_bool HM.out.symm, rfl⟩

/-- One number more for who remembers all: what was taken, rising, and the codes so far. -/
def stepA (s : List Int × List Int) (n : Int) : List Int × List Int := (if codeL s.1 n = 0 then insL ltI n s.1 else s.1, s.2 ++ [codeL s.1 n])
/-- The same as the specification says it: what was taken, as it came; the greatest; the codes. -/
def stepB (s : (List Int × Int) × List Int) (n : Int) : (List Int × Int) × List Int :=
  if n ∈ s.1.1 then (s.1, s.2 ++ [1]) else if 16 ≤ s.1.2 - n then (s.1, s.2 ++ [2]) else ((s.1.1 ++ [n], max s.1.2 n), s.2 ++ [0])
def playOk (l : List Int) : Bool := decide (l.length ≤ 60) && l.all playB
def allV (l : List Int) : List Int := if playOk l = true then (l.foldl stepA ([], [])).2 else []

def InvA (s : List Int × List Int) : Prop := Ris ltI s.1 ∧ (∀ x ∈ s.1, 1 ≤ x ∧ x ≤ 100000) ∧ s.1.length ≤ s.2.length
theorem invA_top {s : List Int × List Int} (h : InvA s) : 0 ≤ topL s.1 ∧ topL s.1 ≤ 100000 := by
  by_cases h0 : s.1 = []
  · rw [h0, topL_nil]; omega
  · have := h.2.1 _ (topL_mem h0); omega
theorem code_zero {l : List Int} {n : Int} (h : codeL l n = 0) : n ∉ l := fun e => by
  unfold codeL at h
  rw [if_pos e] at h
  cases h
theorem invA_step {s : List Int × List Int} (h : InvA s) {n : Int} (hn : 1 ≤ n ∧ n ≤ 100000) : InvA (stepA s n) := by
  unfold stepA
  by_cases hc : codeL s.1 n = 0
  · rw [if_pos hc]
    refine ⟨insL_ris ordI n h.1 (code_zero hc), fun x hx => ?_, ?_⟩
    · rcases (insL_mem (lt := ltI) n x _).1 hx with rfl | hx
      · exact hn
      · exact h.2.1 x hx
    · show (insL ltI n s.1).length ≤ (s.2 ++ [codeL s.1 n]).length
      rw [insL_length, List.length_append]
      have := h.2.2
      simp; omega
  · rw [if_neg hc]
    refine ⟨h.1, h.2.1, ?_⟩
    show s.1.length ≤ (s.2 ++ [codeL s.1 n]).length
    rw [List.length_append]
    have := h.2.2
    omega
theorem invA_fold : ∀ (l : List Int) (s : List Int × List Int), InvA s → (∀ x ∈ l, 1 ≤ x ∧ x ≤ 100000) → InvA (l.foldl stepA s)
  | [], s, h, _ => h
  | n :: r, s, h, hl => invA_fold r _ (invA_step h (hl n (by simp))) (fun x hx => hl x (by simp [hx]))
theorem foldA_len : ∀ (l : List Int) (s : List Int × List Int), (l.foldl stepA s).2.length = s.2.length + l.length
  | [], s => rfl
  | n :: r, s => by
    rw [List.foldl_cons, foldA_len r]
    show (s.2 ++ [codeL s.1 n]).length + r.length = _
    simp; omega
theorem invA_nil : InvA ([], []) := ⟨List.Pairwise.nil, fun x h => absurd h (by simp), Nat.le_refl _⟩

def SameAB (s : List Int × List Int) (u : (List Int × Int) × List Int) : Prop := (∀ x, x ∈ u.1.1 ↔ x ∈ s.1) ∧ u.1.2 = topL s.1 ∧ u.2 = s.2
theorem sameAB_step {s : List Int × List Int} {u : (List Int × Int) × List Int} (hI : InvA s) (h : SameAB s u) {n : Int} (hn : 1 ≤ n ∧ n ≤ 100000) : SameAB (stepA s n) (stepB u n) := by
  obtain ⟨h1, h2, h3⟩ := h
  unfold stepA stepB codeL
  by_cases c1 : n ∈ s.1
  · rw [if_pos ((h1 n).2 c1), if_pos c1, if_neg (by decide)]
    exact ⟨h1, h2, by show u.2 ++ [1] = s.2 ++ [1]; rw [h3]⟩
  · rw [if_neg (fun e => c1 ((h1 n).1 e)), if_neg c1]
    by_cases c2 : 16 ≤ topL s.1 - n
    · rw [h2, if_pos c2, if_pos c2, if_neg (by decide)]
      exact ⟨h1, h2, by show u.2 ++ [2] = s.2 ++ [2]; rw [h3]⟩
    · rw [h2, if_neg c2, if_neg c2, if_pos rfl]
      refine ⟨fun x => ?_, ?_, by show u.2 ++ [0] = s.2 ++ [0]; rw [h3]⟩
      · show x ∈ u.1.1 ++ [n] ↔ x ∈ insL ltI n s.1
        rw [insL_mem, List.mem_append, List.mem_singleton, h1, or_comm]
      · show max (topL s.1) n = topL (insL ltI n s.1)
        refine (topL_of (insL_ris ordI n hI.1 c1) ?_ ?_).symm
        · rw [insL_mem]
          by_cases c3 : topL s.1 ≤ n
          · left; omega
          · right
            rw [show max (topL s.1) n = topL s.1 by omega]
            refine topL_mem (fun e => ?_)
            rw [e, topL_nil] at c3
            omega
        · intro x hx
          rcases (insL_mem (lt := ltI) n x _).1 hx with rfl | hx
          · omega
          · have := le_topL hI.1 hx; omega
theorem sameAB_fold : ∀ (l : List Int) (s : List Int × List Int) (u : (List Int × Int) × List Int), InvA s → SameAB s u → (∀ x ∈ l, 1 ≤ x ∧ x ≤ 100000) → SameAB (l.foldl stepA s) (l.foldl stepB u)
  | [], s, u, _, h, _ => h
  | n :: r, s, u, hI, h, hl => sameAB_fold r _ _ (invA_step hI (hl n (by simp))) (sameAB_step hI h (hl n (by simp))) (fun x hx => hl x (by simp [hx]))
theorem foldB_codes {l : List Int} (hl : ∀ x ∈ l, 1 ≤ x ∧ x ≤ 100000) : (l.foldl stepB (([], 0), [])).2 = (l.foldl stepA ([], [])).2 := (sameAB_fold l ([], []) (([], 0), []) invA_nil ⟨fun _ => Iff.rfl, rfl, rfl⟩ hl).2.2

theorem fold_take {α : Type} (f : α → Int → α) (s : α) {l : List Int} {k : Nat} (h : k < l.length) : (l.take (k + 1)).foldl f s = f ((l.take k).foldl f s) (l.getD k 0) := by
  rw [take_snoc 0 h, List.foldl_append]; rfl
theorem playOk_all {l : List Int} (h : playOk l = true) : l.length ≤ 60 ∧ ∀ x ∈ l, 1 ≤ x ∧ x ≤ 100000 := by
  unfold playOk at h
  rw [Bool.and_eq_true, decide_eq_true_eq, List.all_eq_true] at h
  exact ⟨h.1, fun x hx => by have := h.2 x hx; unfold playB at this; exact of_decide_eq_true this⟩

theorem l16Numbers_c (ao : Option Addr) (n c : Nat) (xs : List Int) (w : World) (hx : xs.length = n) (hn : n ≤ 17592186044416) (hr : Rd w ao xs) :
    Calls Tryd.prog 40 #[.slice ao n c] w fun e w' => e = .returned (.bool (playOk xs)) ∧ w' = w := by
  have q := fun wx (h : wx = w) => l1All_c ao n c 1 100000 xs wx hx hn (by rw [h]; exact hr)
  have hE : allIn 1 100000 xs = xs.all playB := rfl
  unfold playOk
  rw [hE] at q
  rw [hx]
  clear hx hr hE
  generalize xs.all playB = zb at q ⊢
  by_cases h60 : n ≤ 60
  · have h60' : (n : Int) ≤ 60 := by omega
    rw [decide_eq_true h60, Bool.true_and]
    go_enter Tryd.func40, Tryd.ntmps40
    go_wp2_with fail
    refine (q _ rfl).mono ?_
    clear q
    rintro e w1 ⟨rfl, hw⟩
    subst w1
    go_wp2
    go_ret
    exact ⟨rfl, rfl⟩
  · have h60' : ¬ (n : Int) ≤ 60 := by omega
    rw [decide_eq_false h60, Bool.false_and]
    go_enter Tryd.func40, Tryd.ntmps40
    go_wp2
    go_ret
    exact ⟨rfl, rfl⟩

end Go.Proofs.YtjpegbodhpnflaaDoor
