/- Chapter 8: the library's search in rising lists; copies of lists. -/
import Derived.Test.YtjpegbodhpnflaaDoorA13R
import Derived.Deep.LoopGhost
import Derived.Lib.AppendZerosOnto
import Derived.Lib.Overlaps
import Derived.Laws.Externs
namespace Go.Proofs.YtjpegbodhpnflaaDoor
set_option linter.unusedVariables false
set_option maxRecDepth 1000000
set_option linter.unusedSimpArgs false
open Go.RowKit

theorem cNaNI_c (x : Int) (w : World) : Calls Tryd.prog 81 #[.int .i64 x] w fun e w' => e = .returned (.bool false) ∧ w' = w := by
  go_enter Tryd.func81, Tryd.ntmps81
  go_wp2
  go_ret
  exact ⟨by simp, rfl⟩

theorem NaNI_c (x : Int) (w : World) : Calls Tryd.prog 72 #[.int .i64 x] w fun e w' => e = .returned (.bool false) ∧ w' = w := by
  go_enter Tryd.func72, Tryd.ntmps72
  go_wp2
  go_ret
  exact ⟨by simp, rfl⟩

theorem LessI_c (x y : Int) (w : World) : Calls Tryd.prog 71 #[.int .i64 x, .int .i64 y] w fun e w' => e = .returned (.bool (ltI x y)) ∧ w' = w := by
  unfold ltI
  go_enter Tryd.func71, Tryd.ntmps71
  go_wp2_with (go_at_call 81; refine (cNaNI_c _ _).mono ?_; rintro e w' ⟨rfl, hw⟩; subst w')
  go_ret
  exact ⟨rfl, rfl⟩

set_option maxHeartbeats 2000000 in
theorem searchI_c (ao : Option Addr) (n c : Nat) (xs : List Int) (x : Int) (w : World) (hx : xs.length = n) (hn : n ≤ 17592186044416) (hr : Rd w ao xs) (hR : Ris ltI xs) :
    Calls Tryd.prog 59 #[.slice ao n c, .int .i64 x] w fun e w' => e = .returned (.tuple #[.int .i64 (posL ltI x xs : Nat), .bool (decide (x ∈ xs))]) ∧ Below w.heap.size w w' := by
  have HX : Hid (xs.length = n) := hx
  have HR : Hid (Rd w ao xs) := hr
  have HL : Hid (∀ k, k < posL ltI x xs → ltI (xs.getD k 0) x = true) := fun k h => pos_lt x _ xs k h
  have HG : Hid (∀ k, posL ltI x xs ≤ k → k < n → ltI (xs.getD k 0) x = false) := fun k h h2 => pos_ge ordI hR x _ h (by omega)
  have HM : Hid ((decide (x ∈ xs)) = decide (posL ltI x xs < n ∧ xs.getD (posL ltI x xs) 0 = x)) := decide_eq_decide.2 (by rw [← hx]; exact pos_mem ordI hR x 0)
  have hP : posL ltI x xs ≤ n := by rw [← hx]; exact posL_le _ _
  generalize decide (x ∈ xs) = zb at HM ⊢
  generalize posL ltI x xs = P at HL HG HM hP ⊢
  clear hx hr hR
  go_enter Tryd.func59, Tryd.ntmps59
  go_wp2
  go_loopw [7, 8] (fun iv jv wr => ∃ lo hi : Nat, iv = .int .i64 lo ∧ jv = .int .i64 hi ∧ lo ≤ P ∧ P ≤ hi ∧ hi ≤ n ∧ Hid (Below w.heap.size w wr)) (fun iv jv _ => (intOf jv).toNat - (intOf iv).toNat)
  case atStart => exact ⟨0, n, rfl, rfl, Nat.zero_le _, hP, Nat.le_refl _, Below.refl _ _⟩
  case round =>
    obtain ⟨lo, hi, rfl, rfl, h1, h2, h3, HB⟩ := hrel
    by_cases hlt : lo < hi
    · obtain ⟨M, hM⟩ : ∃ M : Nat, (lo + hi) / 2 = M := ⟨_, rfl⟩
      have hMi : ((lo : Int) + (hi : Int)) / 2 = (M : Int) := by omega
      have m0 : lo ≤ M := by omega
      have m1 : M < hi := by omega
      obtain ⟨b, o, rfl, g1⟩ := (HR.out.later HB.out).get (k := M) (by rw [HX.out]; omega)
      have k0 : (0 : Int) ≤ (M : Int) := by omega
      have k1 : (M : Int) < (n : Int) := by omega
      by_cases hb : M < P
      · have hl := HL.out M hb
        generalize xs.getD M 0 = y at g1 hl
        have q := fun wx => LessI_c y x wx
        rw [hl] at q
        clear hl hM
        go_wp2_with (go_at_call 71; refine (q _).mono ?_; clear q; rintro e w' ⟨rfl, hw⟩; subst w')
        go_roundw
        case rel => exact ⟨M + 1, hi, by go_num, rfl, by omega, h2, h3, HB⟩
        case measure => simp [intOf]; omega
      · have hl := HG.out M (by omega) (by omega)
        generalize xs.getD M 0 = y at g1 hl
        have q := fun wx => LessI_c y x wx
        rw [hl] at q
        clear hl hM
        go_wp2_with (go_at_call 71; refine (q _).mono ?_; clear q; rintro e w' ⟨rfl, hw⟩; subst w')
        go_roundw
        case rel => exact ⟨lo, M, rfl, by go_num, h1, by omega, by omega, HB⟩
        case measure => simp [intOf]; omega
    · obtain rfl : lo = P := by omega
      obtain rfl : hi = lo := by omega
      have hnl : ¬ (hi : Int) < (hi : Int) := by omega
      by_cases hn2 : hi < n
      · obtain ⟨b, o, rfl, g1⟩ := (HR.out.later HB.out).get (k := hi) (by rw [HX.out]; omega)
        have k0 : (0 : Int) ≤ (hi : Int) := by omega
        have k1 : (hi : Int) < (n : Int) := by omega
        by_cases hy : xs.getD hi 0 = x
        · have HZ : Hid (zb = true) := by show _ = _; rw [HM.out]; exact decide_eq_true ⟨hn2, hy⟩
          generalize xs.getD hi 0 = y at g1 hy
          have he : (y == x) = true := by simp [hy]
          clear hy
          go_wp2
          refine bodyPost_ret (v := .tuple #[.int .i64 (hi : Nat), .bool true]) (by simp [results, Tryd.results59, go_sem]; try rfl) rfl ?_
          exact ⟨by rw [HZ.out], HB.out⟩
        · have HZ : Hid (zb = false) := by show _ = _; rw [HM.out]; exact decide_eq_false fun h => hy h.2
          generalize xs.getD hi 0 = y at g1 hy
          have he : (y == x) = false := by rw [beq_eq_false_iff_ne]; exact hy
          clear hy
          go_wp2_with (go_at_call 72; refine (NaNI_c _ _).mono ?_; rintro e w' ⟨rfl, hw⟩; subst w')
          refine bodyPost_ret (v := .tuple #[.int .i64 (hi : Nat), .bool false]) (by simp [results, Tryd.results59, go_sem]; try rfl) rfl ?_
          exact ⟨by rw [HZ.out], HB.out⟩
      · have HZ : Hid (zb = false) := by show _ = _; rw [HM.out]; exact decide_eq_false fun h => hn2 h.1
        have k1 : ¬ (hi : Int) < (n : Int) := by omega
        go_wp2
        refine bodyPost_ret (v := .tuple #[.int .i64 (hi : Nat), .bool false]) (by simp [results, Tryd.results59, go_sem]; try rfl) rfl ?_
        exact ⟨by rw [HZ.out], HB.out⟩

set_option maxHeartbeats 1000000 in
theorem cloneRI_c (ao : Option Addr) (n c : Nat) (xs : List Int) (w : World) (hx : xs.length = n) (hn : n ≤ 1048576) (hr : Rd w ao xs) (hnil : ao = none → n = 0 ∧ c = 0) :
    Calls Tryd.prog 61 #[.slice ao n c] w fun e w' => ∃ a' c', e = .returned (.slice a' n c') ∧ Own w' w.heap.size (.slice a' n c') xs ∧ Below w.heap.size w w' := by
  cases ao with
  | none =>
    obtain ⟨rfl, rfl⟩ := hnil rfl
    obtain rfl := List.length_eq_zero_iff.1 hx
    have he : ∀ w : World, (binOp .eql 64 (.slice none 0 0) (.slice none 0 0)).run Tryd.prog w = .ok (.bool true) w := fun _ => rfl
    go_enter Tryd.func61, Tryd.ntmps61
    go_wp2
    go_ret
    exact ⟨none, 0, rfl, World.ownsRow_nil _ _ _ _, Below.refl _ _⟩
  | some a =>
    obtain ⟨b, o, sp⟩ := a
    obtain ⟨i0, hi, hz0, hz1, hz2⟩ := info_parts Tryd.infoInt
    have HX : Hid (xs.length = n) := hx
    have hnews : ∀ j u, (cellsI xs)[j]? = some u → (w.alloc (.cells #[] 3)).cell? ((⟨b, o, sp⟩ : Addr).add j) = some u := fun j u hj => by
      rcases hr with rfl | ⟨b', o', he, hc⟩
      · simp [cellsI] at hj
      · simp only [Option.some.injEq, Addr.mk.injEq] at he
        obtain ⟨rfl, rfl, rfl⟩ := he
        have hjl : j < xs.length := by have := (List.getElem?_eq_some_iff.1 hj).1; simpa [cellsI] using this
        rw [getD_map_int xs j hjl] at hj
        simp only [Option.some.injEq] at hj
        subst hj
        rw [Go.WideShapes.add_plain]
        exact calloc (hc j hjl)
    have hown1 : (w.alloc (.cells #[] 3)).ownsRow w.heap.size 3 1 (.slice (some ⟨w.heap.size, 0, none⟩) 0 0) 0 [] := by
      refine ⟨rfl, .inr ⟨w.heap.size, 0, _, rfl, Nat.le_refl _, heap_alloc_new w _, Nat.le_refl _, by unfold maxLen; omega, rfl, rfl⟩⟩
    have hob1 : ∀ k', (Value.slice (some ⟨w.heap.size, 0, none⟩) 0 0).ownBlock = some k' → w.heap.size ≤ k' := fun k' e => by simp [Value.ownBlock] at e; omega
    have he : ∀ w : World, (binOp .eql 64 (.slice (some ⟨b, o, sp⟩) n c) (.slice none 0 0)).run Tryd.prog w = .ok (.bool false) w := fun _ => rfl
    clear hr hx hnil
    go_enter Tryd.func61, Tryd.ntmps61
    go_wp2_with (at_builtin; refine wpList_append_own _ rfl _ _ 64 rfl w.heap.size 3 i0 (.int .i64 0) 1 8 Tryd.underlying64 hi hz0 hz1 hz2 rfl (by decide) _ _ _ rfl hown1 ⟨b, o, sp⟩ n c (cellsI xs) rfl (by rw [cellsI_length, HX.out, Nat.mul_one]) hnews (cellsI_oneCell _) (by unfold maxLen; omega) (by omega) (by simp) ?_; intro v' w3 hown' hgrow _; have HO3 : Hid (Own w3 w.heap.size v' xs) := (by show Own _ _ _ _; unfold Own; rw [HX.out]; rw [List.nil_append, Nat.zero_add] at hown'; exact hown'); have HB3 : Hid (Below w.heap.size w w3) := (balloc w _).grown hgrow (by simp) (fun k' e => hob1 k' e); clear hown' hgrow hown1 hnews hob1)
    obtain ⟨a3, c3, hv⟩ := HO3.out.shape
    rw [HX.out] at hv
    subst hv
    go_ret
    exact ⟨a3, c3, rfl, HO3.out, HB3.out⟩

theorem has_c (ao : Option Addr) (n c : Nat) (xs : List Int) (x : Int) (w : World) (hx : xs.length = n) (hn : n ≤ 17592186044416) (hr : Rd w ao xs) (hR : Ris ltI xs) :
    Calls Tryd.prog 58 #[.slice ao n c, .int .i64 x] w fun e w' => e = .returned (.bool (decide (x ∈ xs))) ∧ Below w.heap.size w w' := by
  have q := searchI_c ao n c xs x w hx hn hr hR
  generalize posL ltI x xs = P at q
  generalize decide (x ∈ xs) = zb at q ⊢
  clear hx hr hR
  go_enter Tryd.func58, Tryd.ntmps58
  go_wp2_with fail
  refine q.mono ?_
  clear q
  rintro e w' ⟨rfl, hb⟩
  have HB : Hid (Below w.heap.size w w') := hb
  clear hb
  go_wp2
  go_ret
  exact ⟨rfl, HB.out⟩

end Go.Proofs.YtjpegbodhpnflaaDoor
