/- Chapter 8: texts sorted: plain facts; the specification's way. -/
import Derived.Test.YtelchkoplncmaaaPL8
namespace Go.Proofs.Ytelchkoplncmaaa
set_option linter.unusedVariables false
set_option maxRecDepth 1000000
set_option linter.unusedSimpArgs false
open Go.RowKit

/-- In order, alike ones side by side. -/
def WS (l : List ByteArray) : Prop := l.Pairwise (fun a b => ltS b a = false)
theorem ws_ext : ∀ {l m : List ByteArray}, WS l → WS m → l.Perm m → l = m
  | [], m, _, _, h => (List.nil_perm.1 h).symm
  | a :: l, [], _, _, h => by have := h.length_eq; simp at this
  | a :: l, b :: m, hl, hm, h => by
    obtain ⟨l1, l2⟩ := List.pairwise_cons.1 hl
    obtain ⟨m1, m2⟩ := List.pairwise_cons.1 hm
    have e : a = b := by
      rcases List.mem_cons.1 (h.mem_iff.1 (show a ∈ a :: l by simp)) with e | e
      · exact e
      · rcases List.mem_cons.1 (h.mem_iff.2 (show b ∈ b :: m by simp)) with e2 | e2
        · exact e2.symm
        · exact ordS.tot (m1 a e) (l1 b e2)
    subst e
    rw [ws_ext l2 m2 ((List.perm_cons a).1 h)]
theorem insL_perm {α : Type} (lt : α → α → Bool) (x : α) (l : List α) : (insL lt x l).Perm (x :: l) := by
  unfold insL
  refine List.perm_middle.trans ?_
  rw [List.take_append_drop]
theorem ws_ins (x : ByteArray) : ∀ {l : List ByteArray}, WS l → WS (insL leS x l)
  | [], _ => by simp [insL, posL, WS]
  | a :: r, h => by
    obtain ⟨h1, h2⟩ := List.pairwise_cons.1 h
    rw [insL_cons]
    by_cases ha : leS a x = true
    · rw [if_pos ha]
      have hxa : ltS x a = false := by unfold leS at ha; simpa using ha
      refine List.pairwise_cons.2 ⟨fun y hy => ?_, ws_ins x h2⟩
      rcases (insL_mem x y r).1 hy with e | e
      · rw [e]; exact hxa
      · exact h1 y e
    · rw [if_neg ha]
      have hxa : ltS x a = true := by unfold leS at ha; simpa using ha
      refine List.pairwise_cons.2 ⟨fun y hy => ?_, h⟩
      rcases List.mem_cons.1 hy with e | e
      · rw [e]; exact ordS.asym hxa
      · cases e2 : ltS y x with
        | false => rfl
        | true => have := ordS.trans e2 hxa; rw [h1 y e] at this; cases this
def sortF (l : List ByteArray) : List ByteArray := l.foldl (fun out s => insL leS s out) []
theorem sortF_snoc (l : List ByteArray) (s : ByteArray) : sortF (l ++ [s]) = insL leS s (sortF l) := by unfold sortF; rw [List.foldl_append]; rfl
theorem sortF_take {l : List ByteArray} {k : Nat} (h : k < l.length) : sortF (l.take (k + 1)) = insL leS (l.getD k ByteArray.empty) (sortF (l.take k)) := by rw [take_snoc ByteArray.empty h, sortF_snoc]
theorem sort_good : ∀ (l : List ByteArray), WS (sortF l) ∧ (sortF l).Perm l := by
  intro l
  have key : ∀ k, k ≤ l.length → WS (sortF (l.take k)) ∧ (sortF (l.take k)).Perm (l.take k) := by
    intro k
    induction k with
    | zero => intro _; exact ⟨by simp [sortF, WS], by simp [sortF]⟩
    | succ k ih =>
      intro hk
      obtain ⟨h1, h2⟩ := ih (by omega)
      rw [sortF_take (by omega), take_snoc ByteArray.empty (show k < l.length by omega)]
      exact ⟨ws_ins _ h1, ((insL_perm leS _ _).trans (List.Perm.cons _ h2)).trans (List.perm_append_singleton _ _).symm⟩
  have := key l.length (Nat.le_refl _)
  rwa [List.take_length] at this
theorem sortF_length (l : List ByteArray) : (sortF l).length = l.length := (sort_good l).2.length_eq
def sortR (l : List ByteArray) : List ByteArray × Bool := if poolB l = true then (sortF l, true) else ([], false)
theorem sortR_short {l zs : List ByteArray} {fb : Bool} (h : sortR l = (zs, fb)) : zs.length ≤ 12 := by
  unfold sortR at h
  split at h
  · rename_i hc
    simp only [poolB, Bool.and_eq_true, decide_eq_true_eq] at hc
    simp only [Prod.mk.injEq] at h
    rw [← h.1, sortF_length]; exact hc.1
  · simp only [Prod.mk.injEq] at h
    rw [← h.1]; simp

set_option maxHeartbeats 1000000 in
theorem l8Sort_c (ao : Option Addr) (n c : Nat) (xs : List ByteArray) (w : World) (hx : xs.length = n) (hn : n ≤ 12) (hr : RdS w ao xs) :
    Calls Try.prog 67 #[.slice ao n c] w fun e w' => ∃ a' c', e = .returned (.slice a' n c') ∧ OwnS w' w.heap.size (.slice a' n c') (sortF xs) ∧ Below w.heap.size w w' := by
  have HX : Hid (xs.length = n) := hx
  have HR : Hid (RdS w ao xs) := hr
  clear hx hr
  go_enter Try.func67, Try.ntmps67
  go_wp2
  go_loopw [3, 8] (fun v iv wr => ∃ (k : Nat) (a' : Option Addr) (c' : Nat), k ≤ n ∧ iv = .int .i64 k ∧ v = .slice a' k c' ∧ Hid (OwnS wr w.heap.size (.slice a' k c') (sortF (xs.take k))) ∧ Hid (Below w.heap.size w wr)) (fun _ iv _ => n - (intOf iv).toNat)
  case atStart => exact ⟨0, none, 0, Nat.zero_le _, rfl, rfl, World.ownsRow_nil _ _ _ _, Below.refl _ _⟩
  case round =>
    obtain ⟨k, a', c', hk, rfl, rfl, hO, hB⟩ := hrel
    by_cases hlt : k < n
    · have hkl : k < xs.length := by rw [HX.out]; exact hlt
      obtain ⟨b, o, rfl, g1⟩ := (HR.out.later hB.out).get hkl
      have HT : Hid (sortF (xs.take (k + 1)) = insL leS (xs.getD k ByteArray.empty) (sortF (xs.take k))) := sortF_take hkl
      have hlen : (sortF (xs.take k)).length = k := by rw [sortF_length, List.length_take]; omega
      generalize xs.getD k ByteArray.empty = x0 at g1 HT
      have qw := l8Place_c w.heap.size a' k c' (sortF (xs.take k)) x0 wr hlen (by omega) hO.out
      rw [← HT.out] at qw
      clear hlen hkl
      go_wp2_with fail
      refine qw.mono ?_
      clear qw
      rintro e w1 ⟨a1, c1, rfl, ho, hb⟩
      have HO1 : Hid (OwnS w1 w.heap.size (.slice a1 (k + 1) c1) (sortF (xs.take (k + 1)))) := ho.mono hB.out.size
      have HB1 : Hid (Below w.heap.size w w1) := hB.out.trans (hb.mono hB.out.size)
      clear hb ho
      go_wp2
      go_roundw
      case rel => exact ⟨k + 1, a1, c1, by omega, by go_num, rfl, HO1, HB1⟩
      case measure => simp [intOf]; omega
    · obtain rfl : k = n := by omega
      rw [List.take_of_length_le (by rw [HX.out]; exact Nat.le_refl _)] at hO
      go_wp2
      go_ret
      exact ⟨a', c', rfl, hO.out, hB.out⟩

theorem specSort_c (ao : Option Addr) (n c : Nat) (xs : List ByteArray) (w : World) (hx : xs.length = n) (hn : n ≤ 17592186044416) (hr : RdS w ao xs) (hs : ∀ s ∈ xs, s.size ≤ 9223372036854775807) (zs : List ByteArray) (fb : Bool) (p : Nat) (hF : sortR xs = (zs, fb)) (hp : zs.length = p) :
    Calls Try.prog 20 #[.slice ao n c] w fun e w' => ∃ a' c', e = .returned (.tuple #[.slice a' p c', .bool fb]) ∧ OwnS w' w.heap.size (.slice a' p c') zs ∧ Below w.heap.size w w' := by
  have q1 := l8Pool_c ao n c xs w hx hn hr hs
  unfold sortR at hF
  cases hb : poolB xs with
  | false =>
    rw [hb] at q1 hF
    simp only [Bool.false_eq_true, if_false, Prod.mk.injEq] at hF
    obtain ⟨rfl, rfl⟩ := hF
    simp at hp
    subst hp
    clear hb hr hs hx
    go_enter Try.func20, Try.ntmps20
    go_wp2_with (go_at_call 58; refine q1.mono ?_; clear q1; rintro e w' ⟨rfl, hw⟩; subst w')
    refine bodyPost_ret (v := .tuple #[.slice none 0 0, .bool false]) (by simp [results, Try.results20, go_sem]; try rfl) rfl ?_
    exact ⟨none, 0, rfl, World.ownsRow_nil _ _ _ _, Below.refl _ _⟩
  | true =>
    have h12 : n ≤ 12 := by have h := hb; simp only [poolB, Bool.and_eq_true, decide_eq_true_eq] at h; omega
    rw [hb] at q1 hF
    simp only [if_true, Prod.mk.injEq] at hF
    obtain ⟨rfl, rfl⟩ := hF
    have q2 := l8Sort_c ao n c xs w hx h12 hr
    obtain rfl : n = p := by rw [← hp, sortF_length, hx]
    clear hb hr hs hx hp
    generalize sortF xs = zs at q2 ⊢
    go_enter Try.func20, Try.ntmps20
    go_wp2_with (go_at_call 58; refine q1.mono ?_; clear q1; rintro e w' ⟨rfl, hw⟩; subst w')
    refine q2.mono ?_
    clear q2
    rintro e w1 ⟨a1, c1, rfl, ho, hb⟩
    have HO1 : Hid (OwnS w1 w.heap.size (.slice a1 n c1) zs) := ho
    have HB1 : Hid (Below w.heap.size w w1) := hb
    clear ho hb
    go_wp2
    refine bodyPost_ret (v := .tuple #[.slice a1 n c1, .bool true]) (by simp [results, Try.results20, go_sem]; try rfl) rfl ?_
    exact ⟨a1, c1, rfl, HO1.out, HB1.out⟩

end Go.Proofs.Ytelchkoplncmaaa
