/- Chapter 11: BlameOf, WholeTrip, PublicsOf of the specification. -/
import Derived.Test.YtdhnolafkgkliaaDoorK11
namespace Go.Proofs.YtdhnolafkgkliaaDoor
set_option linter.unusedVariables false
set_option maxRecDepth 1000000
set_option linter.unusedSimpArgs false
open Go.RowKit

set_option maxHeartbeats 2000000 in
theorem specBlameOf_c (ao : Option Addr) (n c : Nat) (ps : List Int) (l : Int) (bo : Option Addr) (m d : Nat) (rs : List Rc) (w : World) (hx : ps.length = n) (hn : n ≤ 17592186044416) (hm : m ≤ 17592186044416) (hy : rs.length = m) (hr : Rd w ao ps) (hs : RdR w bo rs) :
    Calls Tryd.prog 21 #[.slice ao n c, .int .i64 l, .slice bo m d] w fun e w' => e = .returned (.tuple #[.int .i64 (blameI ps l rs), .bool (traceB ps l rs)]) ∧ Below w.heap.size w w' := by
  have HC1 : Hid (Calls Tryd.prog 63 #[.slice ao n c] w fun e w' => e = .returned (.bool (pubsB ps)) ∧ w' = w) := l11Publics_c ao n c ps w hx hn hr
  have c2 := fun wx => l11Letter_c l wx
  by_cases h1 : pubsB ps = true
  case neg =>
    rw [Bool.not_eq_true] at h1
    have h : traceB ps l rs = false := by unfold traceB; rw [h1]; rfl
    have hv : blameI ps l rs = 0 := by unfold blameI; rw [h]; rfl
    rw [hv, h]
    rw [h1] at HC1
    clear hv h h1 hx hy hr hs c2
    go_enter Tryd.func21, Tryd.ntmps21
    go_wp2_with fail
    refine (HC1.out).mono ?_
    rintro e w' ⟨rfl, hw⟩
    subst w'
    go_wp2
    refine bodyPost_ret (v := .tuple #[.int .i64 0, .bool false]) (by simp [results, Tryd.results21, go_sem]; try rfl) rfl ?_
    exact ⟨rfl, Below.refl _ _⟩
  by_cases h2 : letB l = true
  case neg =>
    rw [Bool.not_eq_true] at h2
    have h : traceB ps l rs = false := by unfold traceB; rw [h2]; simp
    have hv : blameI ps l rs = 0 := by unfold blameI; rw [h]; rfl
    rw [hv, h]
    rw [h1] at HC1
    rw [h2] at c2
    clear hv h h1 h2 hx hy hr hs
    go_enter Tryd.func21, Tryd.ntmps21
    go_wp2_with fail
    refine (HC1.out).mono ?_
    rintro e w' ⟨rfl, hw⟩
    subst w'
    go_wp2_with fail
    refine (c2 _).mono ?_
    rintro e w' ⟨rfl, hw⟩
    subst w'
    go_wp2
    refine bodyPost_ret (v := .tuple #[.int .i64 0, .bool false]) (by simp [results, Tryd.results21, go_sem]; try rfl) rfl ?_
    exact ⟨rfl, Below.refl _ _⟩
  by_cases h3 : m ≤ 40
  case neg =>
    have h : traceB ps l rs = false := by unfold traceB; rw [hy, decide_eq_false h3]; simp
    have hv : blameI ps l rs = 0 := by unfold blameI; rw [h]; rfl
    rw [hv, h]
    rw [h1] at HC1
    rw [h2] at c2
    have h3' : (40 : Int) < (m : Int) := by omega
    clear hv h h1 h2 hx hy hr hs
    go_enter Tryd.func21, Tryd.ntmps21
    go_wp2_with fail
    refine (HC1.out).mono ?_
    rintro e w' ⟨rfl, hw⟩
    subst w'
    go_wp2_with fail
    refine (c2 _).mono ?_
    rintro e w' ⟨rfl, hw⟩
    subst w'
    go_wp2
    refine bodyPost_ret (v := .tuple #[.int .i64 0, .bool false]) (by simp [results, Tryd.results21, go_sem]; try rfl) rfl ?_
    exact ⟨rfl, Below.refl _ _⟩
  have h : traceB ps l rs = true := by unfold traceB; rw [h1, h2, hy, decide_eq_true h3]; rfl
  have h3' : ¬ (40 : Int) < (m : Int) := by omega
  have hlen := pubs_len h1
  rw [hx] at hlen
  have hv : blameI ps l rs = (firstN ps l rs : Int) - 1 := by unfold blameI; rw [h]; rfl
  rw [hv, h]
  have HP : Hid (∀ j, j < n → memB (ps.getD j 0) = true) := fun j hj => pubs_mem h1 j (by omega)
  have HR : Hid (Rd w ao ps) := hr
  have HS : Hid (RdR w bo rs) := hs
  have HC : Hid (∀ (k : Nat) wx, k < n → Rd wx ao ps → RdR wx bo rs → Calls Tryd.prog 64 #[.slice ao n c, .int .i64 k, .int .i64 l, .slice bo m d] wx fun e w' => e = .returned (.bool (hasR (ps.getD k 0) k l rs)) ∧ Below wx.heap.size wx w') := fun k wx g1 g2 g3 => l11Has_c ao n c ps k l bo m d rs wx hx (by omega) g1 hy h3 g2 g3 (HP.out k g1)
  have HF : Hid (∀ k, k < n → (∀ j, j < k → hasR (ps.getD j 0) (j : Int) l rs = true) → hasR (ps.getD k 0) (k : Int) l rs = false → firstN ps l rs = k) := fun k hk ha hn => firstN_no (by omega) ha hn
  have HA : Hid ((∀ j, j < n → hasR (ps.getD j 0) (j : Int) l rs = true) → firstN ps l rs = n) := fun ha => by rw [← hx]; exact firstN_all (fun j hj => ha j (by omega))
  generalize firstN ps l rs = fn at HF HA ⊢
  rw [h1] at HC1
  rw [h2] at c2
  clear hv h h1 h2 hx hy hr hs
  go_enter Tryd.func21, Tryd.ntmps21
  go_wp2_with fail
  refine (HC1.out).mono ?_
  rintro e w' ⟨rfl, hw⟩
  subst w'
  go_wp2_with fail
  refine (c2 _).mono ?_
  rintro e w' ⟨rfl, hw⟩
  subst w'
  go_wp2
  go_loopw [24] (fun i wr => ∃ k : Nat, k ≤ n ∧ i = .int .i64 k ∧ Hid (∀ j, j < k → hasR (ps.getD j 0) (j : Int) l rs = true) ∧ Hid (Below w.heap.size w wr)) (fun i _ => n - (intOf i).toNat)
  case atStart => exact ⟨0, Nat.zero_le _, rfl, fun j h => absurd h (by omega), Below.refl _ _⟩
  case round =>
    obtain ⟨k, hk, rfl, HG, HB⟩ := hrel
    by_cases hlt : k < n
    · have hrun := HC.out k wr hlt (HR.out.later HB.out) (HS.out.later HB.out)
      have hno : hasR (ps.getD k 0) (k : Int) l rs = false → fn = k := fun h => HF.out k hlt HG.out h
      have hyes : hasR (ps.getD k 0) (k : Int) l rs = true → ∀ j, j < k + 1 → hasR (ps.getD j 0) (j : Int) l rs = true := fun h j hj => by
        by_cases e : j = k
        · rw [e]; exact h
        · exact HG.out j (by omega)
      generalize hasR (ps.getD k 0) (k : Int) l rs = sb at hrun hno hyes
      have HRun : Hid (Calls Tryd.prog 64 #[.slice ao n c, .int .i64 k, .int .i64 l, .slice bo m d] wr fun e w' => e = .returned (.bool sb) ∧ Below wr.heap.size wr w') := hrun
      clear hrun
      by_cases hsb : sb = true
      · have HY : Hid (∀ j, j < k + 1 → hasR (ps.getD j 0) (j : Int) l rs = true) := hyes hsb
        subst hsb
        clear hno hyes
        go_wp2_with fail
        refine HRun.out.mono ?_
        rintro e w1 ⟨rfl, hb⟩
        have HB1 : Hid (Below w.heap.size w w1) := HB.out.trans (hb.mono HB.out.size)
        clear hb
        go_wp2
        go_roundw
        case rel => exact ⟨k + 1, by omega, by go_num, HY, HB1⟩
        case measure => simp [intOf]; omega
      · rw [Bool.not_eq_true] at hsb
        have HN : Hid (fn = k) := hno hsb
        subst hsb
        clear hno hyes
        go_wp2_with fail
        refine HRun.out.mono ?_
        rintro e w1 ⟨rfl, hb⟩
        have HB1 : Hid (Below w.heap.size w w1) := HB.out.trans (hb.mono HB.out.size)
        clear hb
        go_wp2
        refine bodyPost_ret (v := .tuple #[.int .i64 ((k : Int) - 1), .bool true]) (by simp [results, Tryd.results21, go_sem]; try rfl) rfl ?_
        exact ⟨by rw [HN.out], HB1.out⟩
    · obtain rfl : k = n := by omega
      have HN : Hid (fn = k) := HA.out HG.out
      go_wp2
      refine bodyPost_ret (v := .tuple #[.int .i64 ((k : Int) - 1), .bool true]) (by simp [results, Tryd.results21, go_sem]; try rfl) rfl ?_
      exact ⟨by rw [HN.out], HB.out⟩

set_option maxHeartbeats 2000000 in
theorem specWholeTrip_c (ao : Option Addr) (n c : Nat) (ps : List Int) (l : Int) (bo : Option Addr) (m d : Nat) (rs : List Rc) (w : World) (hx : ps.length = n) (hn : n ≤ 17592186044416) (hm : m ≤ 17592186044416) (hy : rs.length = m) (hr : Rd w ao ps) (hs : RdR w bo rs) :
    Calls Tryd.prog 22 #[.slice ao n c, .int .i64 l, .slice bo m d] w fun e w' => e = .returned (.tuple #[.bool (wholeB ps l rs), .bool (traceB ps l rs)]) ∧ Below w.heap.size w w' := by
  have HC1 : Hid (Calls Tryd.prog 63 #[.slice ao n c] w fun e w' => e = .returned (.bool (pubsB ps)) ∧ w' = w) := l11Publics_c ao n c ps w hx hn hr
  have c2 := fun wx => l11Letter_c l wx
  by_cases h1 : pubsB ps = true
  case neg =>
    rw [Bool.not_eq_true] at h1
    have h : traceB ps l rs = false := by unfold traceB; rw [h1]; rfl
    have hv : wholeB ps l rs = false := by unfold wholeB; rw [h]; rfl
    rw [hv, h]
    rw [h1] at HC1
    clear hv h h1 hx hy hr hs c2
    go_enter Tryd.func22, Tryd.ntmps22
    go_wp2_with fail
    refine (HC1.out).mono ?_
    rintro e w' ⟨rfl, hw⟩
    subst w'
    go_wp2
    refine bodyPost_ret (v := .tuple #[.bool false, .bool false]) (by simp [results, Tryd.results22, go_sem]; try rfl) rfl ?_
    exact ⟨rfl, Below.refl _ _⟩
  by_cases h2 : letB l = true
  case neg =>
    rw [Bool.not_eq_true] at h2
    have h : traceB ps l rs = false := by unfold traceB; rw [h2]; simp
    have hv : wholeB ps l rs = false := by unfold wholeB; rw [h]; rfl
    rw [hv, h]
    rw [h1] at HC1
    rw [h2] at c2
    clear hv h h1 h2 hx hy hr hs
    go_enter Tryd.func22, Tryd.ntmps22
    go_wp2_with fail
    refine (HC1.out).mono ?_
    rintro e w' ⟨rfl, hw⟩
    subst w'
    go_wp2_with fail
    refine (c2 _).mono ?_
    rintro e w' ⟨rfl, hw⟩
    subst w'
    go_wp2
    refine bodyPost_ret (v := .tuple #[.bool false, .bool false]) (by simp [results, Tryd.results22, go_sem]; try rfl) rfl ?_
    exact ⟨rfl, Below.refl _ _⟩
  by_cases h3 : m ≤ 40
  case neg =>
    have h : traceB ps l rs = false := by unfold traceB; rw [hy, decide_eq_false h3]; simp
    have hv : wholeB ps l rs = false := by unfold wholeB; rw [h]; rfl
    rw [hv, h]
    rw [h1] at HC1
    rw [h2] at c2
    have h3' : (40 : Int) < (m : Int) := by omega
    clear hv h h1 h2 hx hy hr hs
    go_enter Tryd.func22, Tryd.ntmps22
    go_wp2_with fail
    refine (HC1.out).mono ?_
    rintro e w' ⟨rfl, hw⟩
    subst w'
    go_wp2_with fail
    refine (c2 _).mono ?_
    rintro e w' ⟨rfl, hw⟩
    subst w'
    go_wp2
    refine bodyPost_ret (v := .tuple #[.bool false, .bool false]) (by simp [results, Tryd.results22, go_sem]; try rfl) rfl ?_
    exact ⟨rfl, Below.refl _ _⟩
  have h : traceB ps l rs = true := by unfold traceB; rw [h1, h2, hy, decide_eq_true h3]; rfl
  have h3' : ¬ (40 : Int) < (m : Int) := by omega
  have hlen := pubs_len h1
  rw [hx] at hlen
  have hv : wholeB ps l rs = decide (firstN ps l rs = n) := by unfold wholeB; rw [h, hx]; rfl
  rw [hv, h]
  have HP : Hid (∀ j, j < n → memB (ps.getD j 0) = true) := fun j hj => pubs_mem h1 j (by omega)
  have HR : Hid (Rd w ao ps) := hr
  have HS : Hid (RdR w bo rs) := hs
  have HC : Hid (∀ (k : Nat) wx, k < n → Rd wx ao ps → RdR wx bo rs → Calls Tryd.prog 64 #[.slice ao n c, .int .i64 k, .int .i64 l, .slice bo m d] wx fun e w' => e = .returned (.bool (hasR (ps.getD k 0) k l rs)) ∧ Below wx.heap.size wx w') := fun k wx g1 g2 g3 => l11Has_c ao n c ps k l bo m d rs wx hx (by omega) g1 hy h3 g2 g3 (HP.out k g1)
  have HF : Hid (∀ k, k < n → (∀ j, j < k → hasR (ps.getD j 0) (j : Int) l rs = true) → hasR (ps.getD k 0) (k : Int) l rs = false → firstN ps l rs = k) := fun k hk ha hn => firstN_no (by omega) ha hn
  have HA : Hid ((∀ j, j < n → hasR (ps.getD j 0) (j : Int) l rs = true) → firstN ps l rs = n) := fun ha => by rw [← hx]; exact firstN_all (fun j hj => ha j (by omega))
  generalize firstN ps l rs = fn at HF HA ⊢
  rw [h1] at HC1
  rw [h2] at c2
  clear hv h h1 h2 hx hy hr hs
  go_enter Tryd.func22, Tryd.ntmps22
  go_wp2_with fail
  refine (HC1.out).mono ?_
  rintro e w' ⟨rfl, hw⟩
  subst w'
  go_wp2_with fail
  refine (c2 _).mono ?_
  rintro e w' ⟨rfl, hw⟩
  subst w'
  go_wp2
  go_loopw [24] (fun i wr => ∃ k : Nat, k ≤ n ∧ i = .int .i64 k ∧ Hid (∀ j, j < k → hasR (ps.getD j 0) (j : Int) l rs = true) ∧ Hid (Below w.heap.size w wr)) (fun i _ => n - (intOf i).toNat)
  case atStart => exact ⟨0, Nat.zero_le _, rfl, fun j h => absurd h (by omega), Below.refl _ _⟩
  case round =>
    obtain ⟨k, hk, rfl, HG, HB⟩ := hrel
    by_cases hlt : k < n
    · have hrun := HC.out k wr hlt (HR.out.later HB.out) (HS.out.later HB.out)
      have hno : hasR (ps.getD k 0) (k : Int) l rs = false → fn = k := fun h => HF.out k hlt HG.out h
      have hyes : hasR (ps.getD k 0) (k : Int) l rs = true → ∀ j, j < k + 1 → hasR (ps.getD j 0) (j : Int) l rs = true := fun h j hj => by
        by_cases e : j = k
        · rw [e]; exact h
        · exact HG.out j (by omega)
      generalize hasR (ps.getD k 0) (k : Int) l rs = sb at hrun hno hyes
      have HRun : Hid (Calls Tryd.prog 64 #[.slice ao n c, .int .i64 k, .int .i64 l, .slice bo m d] wr fun e w' => e = .returned (.bool sb) ∧ Below wr.heap.size wr w') := hrun
      clear hrun
      by_cases hsb : sb = true
      · have HY : Hid (∀ j, j < k + 1 → hasR (ps.getD j 0) (j : Int) l rs = true) := hyes hsb
        subst hsb
        clear hno hyes
        go_wp2_with fail
        refine HRun.out.mono ?_
        rintro e w1 ⟨rfl, hb⟩
        have HB1 : Hid (Below w.heap.size w w1) := HB.out.trans (hb.mono HB.out.size)
        clear hb
        go_wp2
        go_roundw
        case rel => exact ⟨k + 1, by omega, by go_num, HY, HB1⟩
        case measure => simp [intOf]; omega
      · rw [Bool.not_eq_true] at hsb
        have HN : Hid (fn = k) := hno hsb
        subst hsb
        clear hno hyes
        go_wp2_with fail
        refine HRun.out.mono ?_
        rintro e w1 ⟨rfl, hb⟩
        have HB1 : Hid (Below w.heap.size w w1) := HB.out.trans (hb.mono HB.out.size)
        clear hb
        go_wp2
        refine bodyPost_ret (v := .tuple #[.bool false, .bool true]) (by simp [results, Tryd.results22, go_sem]; try rfl) rfl ?_
        exact ⟨by rw [HN.out]; rw [decide_eq_false (by omega)], HB1.out⟩
    · obtain rfl : k = n := by omega
      have HN : Hid (fn = k) := HA.out HG.out
      go_wp2
      refine bodyPost_ret (v := .tuple #[.bool true, .bool true]) (by simp [results, Tryd.results22, go_sem]; try rfl) rfl ?_
      exact ⟨by rw [HN.out]; rw [decide_eq_true rfl], HB.out⟩

set_option maxHeartbeats 2000000 in
theorem specPublics_c (ao : Option Addr) (n c : Nat) (xs : List Int) (w : World) (hx : xs.length = n) (hn : n ≤ 17592186044416) (hr : Rd w ao xs) (q : Nat) (hq : (pubsL xs).length = q) :
    Calls Tryd.prog 13 #[.slice ao n c] w fun e w' => ∃ a' c', e = .returned (.tuple #[.slice a' q c', .bool (secsH xs)]) ∧ Own w' w.heap.size (.slice a' q c') (pubsL xs) ∧ Below w.heap.size w w' := by
  have HC1 : Hid (Calls Tryd.prog 48 #[.slice ao n c] w fun e w' => e = .returned (.bool (secsH xs)) ∧ w' = w) := l11Secrets_c ao n c xs w hx hn hr
  by_cases h : secsH xs = true
  case neg =>
    rw [Bool.not_eq_true] at h
    rw [pubsL_no h] at hq ⊢
    rw [h] at HC1 ⊢
    simp at hq
    subst hq
    clear h hx hr
    go_enter Tryd.func13, Tryd.ntmps13
    go_wp2_with fail
    refine HC1.out.mono ?_
    rintro e w' ⟨rfl, hw⟩
    subst w'
    go_wp2
    refine bodyPost_ret (v := .tuple #[.slice none 0 0, .bool false]) (by simp [results, Tryd.results13, go_sem]; try rfl) rfl ?_
    exact ⟨none, 0, rfl, World.ownsRow_nil _ _ _ _, Below.refl _ _⟩
  have hall := secsH_all h
  rw [pubsL_yes h] at hq ⊢
  obtain rfl : q = n := by rw [← hq, ← hx]; simp [rootL]
  obtain ⟨i0, hi, hz0, hz1, hz2⟩ := info_parts Tryd.infoInt
  have hn6 : q ≤ 6 := by have := secsH_len h; omega
  have HX : Hid (xs.length = q) := hx
  have HR : Hid (Rd w ao xs) := hr
  have HA : Hid (allB xs 1 1498 = true) := hall
  rw [h] at HC1 ⊢
  clear h hx hr hall hq
  go_enter Tryd.func13, Tryd.ntmps13
  go_wp2_with fail
  refine HC1.out.mono ?_
  rintro e w' ⟨rfl, hw⟩
  subst w'
  go_wp2
  go_loopw [4, 12] (fun v i wr => ∃ k : Nat, k ≤ q ∧ i = .int .i64 k ∧ Hid (Own wr w.heap.size v (rootL (xs.take k))) ∧ Hid (Below w.heap.size w wr)) (fun _ i _ => q - (intOf i).toNat)
  case atStart => exact ⟨0, Nat.zero_le _, rfl, World.ownsRow_nil _ _ _ _, Below.refl _ _⟩
  case round =>
    obtain ⟨k, hk, rfl, hO, hB⟩ := hrel
    by_cases hlt : k < q
    · have hkl : k < xs.length := by rw [HX.out]; exact hlt
      obtain ⟨b, o, rfl, g1⟩ := Rd.get (HR.out.later hB.out) hkl
      have hxk := allB_getD HA.out k hkl
      have HT : Hid (rootL (xs.take (k + 1)) = rootL (xs.take k) ++ [pw 4 (xs.getD k 0).toNat]) := rootL_take hkl
      have hlen : (rootL (xs.take k)).length = k := by simp only [rootL, List.length_map, List.length_take]; omega
      generalize xs.getD k 0 = v at g1 hxk HT
      obtain ⟨z, rfl⟩ : ∃ z : Nat, v = z := ⟨v.toNat, by omega⟩
      rw [Int.toNat_natCast] at HT
      have hob : ∀ k', u4.ownBlock = some k' → w.heap.size ≤ k' := own_block_ge hO.out
      have hown : wr.ownsRow w.heap.size 3 1 u4 k (cellsI (rootL (xs.take k))) := by have h := hO.out; unfold Own at h; rw [hlen] at h; exact h
      have HL : Hid ((rootL (xs.take k)).length = k) := hlen
      have qw := fun wx => l2Power_c 4 z wx (by omega) (by omega) (by omega)
      generalize pw 4 z = x0 at qw HT
      generalize rootL (xs.take k) = out at hown HL HT
      clear hlen hkl
      go_wp2_with fail
      refine (qw _).mono ?_
      clear qw
      rintro e w' ⟨rfl, hw⟩
      subst w'
      go_wp2_with (at_builtin; refine wpList_append_own _ rfl _ _ 23 rfl w.heap.size 3 i0 (.int .i64 0) 1 8 Tryd.underlying23 hi hz0 hz1 hz2 rfl (by decide) _ _ _ rfl (hown.alloc _) ⟨wr.heap.size, 0, none⟩ 1 1 [.int .i64 x0] rfl rfl (cell_new1 _ _ _) (ints_oneCell .i64 [x0]) (by unfold maxLen; omega) (by omega) (by have := hB.out.size; simp; omega) ?_; intro v' w2 hown' hgrow _; have HO' : Hid (Own w2 w.heap.size v' (out ++ [x0])) := own_push (w := wr) (v := u4) (by simpa [HL.out] using hown'); have HB' : Hid (Below w.heap.size w w2) := (hB.out.alloc hB.out.size _).grown hgrow (by have := hB.out.size; simp; omega) (fun k' e => hob k' e); clear hown' hgrow)
      go_roundw
      case rel => exact ⟨k + 1, by omega, by go_num, by show Own _ _ _ _; rw [HT.out]; exact HO'.out, HB'⟩
      case measure => simp [intOf]; omega
    · obtain rfl : k = q := by omega
      rw [List.take_of_length_le (by rw [HX.out]; exact Nat.le_refl _)] at hO
      obtain ⟨a', c', hv⟩ := hO.out.shape
      rw [show (rootL xs).length = k by simp only [rootL, List.length_map]; exact HX.out] at hv
      subst hv
      go_wp2
      refine bodyPost_ret (v := .tuple #[.slice a' k c', .bool true]) (by simp [results, Tryd.results13, go_sem]; try rfl) rfl ?_
      exact ⟨a', c', rfl, hO.out, hB.out⟩

end Go.Proofs.YtdhnolafkgkliaaDoor
