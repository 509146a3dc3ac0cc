/- Chapter 11: BlameOf, WholeTrip, PublicsOf of the program. -/
import Derived.Test.YtdhnolafkgkliaaDoorG11
namespace Go.Proofs.YtdhnolafkgkliaaDoor
set_option linter.unusedVariables false
set_option maxRecDepth 1000000
set_option linter.unusedSimpArgs false
open Go.RowKit

theorem pubs_mem {ps : List Int} (h : pubsB ps = true) : ∀ j, j < ps.length → memB (ps.getD j 0) = true := fun j hj => by
  unfold pubsB at h
  rw [Bool.and_eq_true, List.all_eq_true] at h
  exact h.2 _ (mem_getD 0 hj)

theorem pubs_len {ps : List Int} (h : pubsB ps = true) : 1 ≤ ps.length ∧ ps.length ≤ 6 := by
  unfold pubsB at h
  rw [Bool.and_eq_true, decide_eq_true_eq] at h
  exact h.1

theorem trace_pubs {ps : List Int} {l : Int} {rs : List Rc} (h : traceB ps l rs = true) : pubsB ps = true := by
  unfold traceB at h
  rw [Bool.and_eq_true] at h
  exact h.1

theorem trace_few {ps : List Int} {l : Int} {rs : List Rc} (h : traceB ps l rs = true) : (0 ≤ l ∧ l ≤ 1000) ∧ rs.length ≤ 40 := by
  unfold traceB letB at h
  simp at h
  omega

set_option maxHeartbeats 2000000 in
theorem firstWithout_c (ao : Option Addr) (n c : Nat) (ps : List Int) (l : Int) (bo : Option Addr) (m d : Nat) (rs : List Rc) (w : World) (hx : ps.length = n) (hy : rs.length = m) (hr : Rd w ao ps) (hs : RdR w bo rs) (hm : m ≤ 17592186044416) (ht : Tab w) (hp : pubsB ps = true) :
    Calls Tryd.prog 56 #[.slice ao n c, .int .i64 l, .slice bo m d] w fun e w' => e = .returned (.int .i64 (firstN ps l rs : Nat)) ∧ Below w.heap.size w w' := by
  have hn := pubs_len hp
  rw [hx] at hn
  have HX : Hid (ps.length = n) := hx
  have HR : Hid (Rd w ao ps) := hr
  have HS : Hid (RdR w bo rs) := hs
  have HT : Hid (Tab w) := ht
  have HP : Hid (∀ j, j < n → memB (ps.getD j 0) = true) := fun j hj => pubs_mem hp j (by omega)
  have HC : Hid (∀ k p wx, memB p = true → k ≤ 6 → RdR wx bo rs → Tab wx → Calls Tryd.prog 81 #[.int .i64 (k : Nat), .int .i64 p, .int .i64 l, .slice bo m d] wx fun e w' => e = .returned (.bool (hasR p (k : Nat) l rs)) ∧ Below wx.heap.size wx w') := fun k p wx h1 h2 h3 h4 => hasReceiptOf_c p (k : Nat) l bo m d rs wx hy hm h3 (by omega) h4 h1
  have HF : Hid (∀ k, k < n → (∀ j, j < k → hasR (ps.getD j 0) (j : Int) l rs = true) → hasR (ps.getD k 0) (k : Int) l rs = false → firstN ps l rs = k) := fun k hk ha hn => firstN_no (by omega) ha hn
  have HA : Hid ((∀ j, j < n → hasR (ps.getD j 0) (j : Int) l rs = true) → firstN ps l rs = n) := fun ha => by rw [← hx]; exact firstN_all (fun j hj => ha j (by omega))
  generalize firstN ps l rs = fn at HF HA ⊢
  clear hx hy hr hs ht hp
  go_enter Tryd.func56, Tryd.ntmps56
  go_wp2
  go_loopw [11] (fun i wr => ∃ k : Nat, k ≤ n ∧ i = .int .i64 k ∧ Hid (∀ j, j < k → hasR (ps.getD j 0) (j : Int) l rs = true) ∧ Hid (Below w.heap.size w wr)) (fun i _ => n - (intOf i).toNat)
  case atStart => exact ⟨0, Nat.zero_le _, rfl, fun j h => absurd h (by omega), Below.refl _ _⟩
  case round =>
    obtain ⟨k, hk, rfl, HG, HB⟩ := hrel
    by_cases hlt : k < n
    · have hkl : k < ps.length := by rw [HX.out]; exact hlt
      obtain ⟨b, o, rfl, g0⟩ := (HR.out.later HB.out).get hkl
      have hrun := HC.out k (ps.getD k 0) wr (HP.out k hlt) (by omega) (HS.out.later HB.out) (HT.out.keep HB.out)
      have hno : hasR (ps.getD k 0) (k : Int) l rs = false → fn = k := fun h => HF.out k hlt HG.out h
      have hyes : hasR (ps.getD k 0) (k : Int) l rs = true → ∀ j, j < k + 1 → hasR (ps.getD j 0) (j : Int) l rs = true := fun h j hj => by
        by_cases e : j = k
        · rw [e]; exact h
        · exact HG.out j (by omega)
      generalize hasR (ps.getD k 0) (k : Int) l rs = sb at hrun hno hyes
      generalize ps.getD k 0 = x0 at g0 hrun
      have HRun : Hid (Calls Tryd.prog 81 #[.int .i64 (k : Nat), .int .i64 x0, .int .i64 l, .slice bo m d] wr fun e w' => e = .returned (.bool sb) ∧ Below wr.heap.size wr w') := hrun
      clear hrun hkl
      by_cases hsb : sb = true
      · have HY : Hid (∀ j, j < k + 1 → hasR (ps.getD j 0) (j : Int) l rs = true) := hyes hsb
        subst hsb
        clear hno hyes
        go_wp2_with fail
        refine HRun.out.mono ?_
        rintro e w1 ⟨rfl, hb⟩
        have HB1 : Hid (Below w.heap.size w w1) := HB.out.trans (hb.mono HB.out.size)
        clear hb
        go_wp2
        go_roundw
        case rel => exact ⟨k + 1, by omega, by go_num, HY, HB1⟩
        case measure => simp [intOf]; omega
      · rw [Bool.not_eq_true] at hsb
        have HN : Hid (fn = k) := hno hsb
        subst hsb
        clear hno hyes
        go_wp2_with fail
        refine HRun.out.mono ?_
        rintro e w1 ⟨rfl, hb⟩
        have HB1 : Hid (Below w.heap.size w w1) := HB.out.trans (hb.mono HB.out.size)
        clear hb
        go_wp2
        go_ret
        exact ⟨ret_int (by rw [HN.out]), HB1.out⟩
    · obtain rfl : k = n := by omega
      have HN : Hid (fn = k) := HA.out HG.out
      go_wp2
      go_ret
      exact ⟨ret_int (by rw [HN.out]), HB.out⟩

theorem areTraceable_c (ao : Option Addr) (n c : Nat) (ps : List Int) (l : Int) (bo : Option Addr) (m d : Nat) (rs : List Rc) (w : World) (hx : ps.length = n) (hn : n ≤ 17592186044416) (hm : m ≤ 17592186044416) (hy : rs.length = m) (hr : Rd w ao ps) :
    Calls Tryd.prog 55 #[.slice ao n c, .int .i64 l, .slice bo m d] w fun e w' => e = .returned (.bool (traceB ps l rs)) ∧ w' = w := by
  have c1 := fun wx h => areSomeMem_c ao n c ps wx hx hn h
  have c2 := fun wx => isLetterNumber_c l wx
  have HR : Hid (Rd w ao ps) := hr
  have he : traceB ps l rs = ((decide (1 ≤ ps.length ∧ ps.length ≤ 6) && ps.all memB) && (letB l && decide (m ≤ 40))) := by unfold traceB pubsB; rw [hy]
  generalize traceB ps l rs = rb at he ⊢
  generalize (decide (1 ≤ ps.length ∧ ps.length ≤ 6) && ps.all memB) = g1 at he c1
  generalize letB l = g2 at he c2
  have HC1 : Hid (∀ wx, Rd wx ao ps → Calls Tryd.prog 43 #[.slice ao n c, .int .i64 6, .func (.func 58) #[] #[]] wx fun e w' => e = .returned (.bool g1) ∧ w' = wx) := c1
  clear c1 hr hx hy
  by_cases h3 : m ≤ 40
  all_goals have h4 : decide ((m : Int) ≤ 40) = decide (m ≤ 40) := decide_eq_decide.2 (by omega)
  all_goals first | rw [decide_eq_true h3] at he h4 | rw [decide_eq_false h3] at he h4
  all_goals have HE := (show Hid (rb = _) from he)
  all_goals clear he h3
  all_goals go_enter Tryd.func55, Tryd.ntmps55
  all_goals go_wp2_with fail
  all_goals refine (HC1.out _ HR.out).mono ?_
  all_goals rintro e w' ⟨rfl, hw⟩
  all_goals subst w'
  all_goals by_cases h1 : g1 = true
  all_goals first | subst h1 | (rw [Bool.not_eq_true] at h1; subst h1; go_wp2; go_ret; exact ⟨ret_bool (by rw [HE.out]; rfl), rfl⟩)
  all_goals go_wp2_with fail
  all_goals refine (c2 _).mono ?_
  all_goals rintro e w' ⟨rfl, hw⟩
  all_goals subst w'
  all_goals by_cases h2 : g2 = true
  all_goals first | subst h2 | (rw [Bool.not_eq_true] at h2; subst h2; go_wp2; go_ret; exact ⟨ret_bool (by rw [HE.out]; rfl), rfl⟩)
  all_goals go_wp2
  all_goals go_ret
  all_goals exact ⟨ret_bool (by rw [HE.out]; simp [h4]), rfl⟩

set_option maxHeartbeats 1000000 in
theorem implBlameOf_c (ao : Option Addr) (n c : Nat) (ps : List Int) (l : Int) (bo : Option Addr) (m d : Nat) (rs : List Rc) (w : World) (hx : ps.length = n) (hn : n ≤ 17592186044416) (hm : m ≤ 17592186044416) (hy : rs.length = m) (hr : Rd w ao ps) (hs : RdR w bo rs) (ht : Tab w) :
    Calls Tryd.prog 16 #[.slice ao n c, .int .i64 l, .slice bo m d] w fun e w' => e = .returned (.tuple #[.int .i64 (blameI ps l rs), .bool (traceB ps l rs)]) ∧ Below w.heap.size w w' := by
  have HC1 : Hid (Calls Tryd.prog 55 #[.slice ao n c, .int .i64 l, .slice bo m d] w fun e w' => e = .returned (.bool (traceB ps l rs)) ∧ w' = w) := areTraceable_c ao n c ps l bo m d rs w hx hn hm hy hr
  by_cases h : traceB ps l rs = true
  case neg =>
    rw [Bool.not_eq_true] at h
    have hv : blameI ps l rs = 0 := by unfold blameI; rw [h]; rfl
    rw [hv, h]
    rw [h] at HC1
    clear hv h hx hy hr hs ht
    go_enter Tryd.func16, Tryd.ntmps16
    go_wp2_with fail
    refine HC1.out.mono ?_
    rintro e w' ⟨rfl, hw⟩
    subst w'
    go_wp2
    refine bodyPost_ret (v := .tuple #[.int .i64 0, .bool false]) (by simp [results, Tryd.results16, go_sem]; try rfl) rfl ?_
    exact ⟨rfl, Below.refl _ _⟩
  have hp := trace_pubs h
  have HC2 : Hid (Calls Tryd.prog 56 #[.slice ao n c, .int .i64 l, .slice bo m d] w fun e w' => e = .returned (.int .i64 (firstN ps l rs : Nat)) ∧ Below w.heap.size w w') := firstWithout_c ao n c ps l bo m d rs w hx hy hr hs hm ht hp
  have hle : firstN ps l rs ≤ 6 := Nat.le_trans (firstN_le ps l rs) (pubs_len hp).2
  have hn6 : n ≤ 6 := by have := pubs_len hp; omega
  have hv : blameI ps l rs = (firstN ps l rs : Int) - 1 := by unfold blameI; rw [h]; rfl
  rw [hv, h]
  rw [h] at HC1
  generalize firstN ps l rs = fn at HC2 hle ⊢
  clear hv h hx hy hr hs ht hp
  go_enter Tryd.func16, Tryd.ntmps16
  go_wp2_with fail
  refine HC1.out.mono ?_
  rintro e w' ⟨rfl, hw⟩
  subst w'
  go_wp2_with fail
  refine HC2.out.mono ?_
  rintro e w1 ⟨rfl, hb⟩
  have HB1 : Hid (Below w.heap.size w w1) := hb
  clear hb
  go_wp2
  refine bodyPost_ret (v := .tuple #[.int .i64 ((fn : Int) - 1), .bool true]) (by simp [results, Tryd.results16, go_sem]; try rfl) rfl ?_
  exact ⟨rfl, HB1.out⟩

set_option maxHeartbeats 1000000 in
theorem implWholeTrip_c (ao : Option Addr) (n c : Nat) (ps : List Int) (l : Int) (bo : Option Addr) (m d : Nat) (rs : List Rc) (w : World) (hx : ps.length = n) (hn : n ≤ 17592186044416) (hm : m ≤ 17592186044416) (hy : rs.length = m) (hr : Rd w ao ps) (hs : RdR w bo rs) (ht : Tab w) :
    Calls Tryd.prog 17 #[.slice ao n c, .int .i64 l, .slice bo m d] w fun e w' => e = .returned (.tuple #[.bool (wholeB ps l rs), .bool (traceB ps l rs)]) ∧ Below w.heap.size w w' := by
  have HC1 : Hid (Calls Tryd.prog 55 #[.slice ao n c, .int .i64 l, .slice bo m d] w fun e w' => e = .returned (.bool (traceB ps l rs)) ∧ w' = w) := areTraceable_c ao n c ps l bo m d rs w hx hn hm hy hr
  by_cases h : traceB ps l rs = true
  case neg =>
    rw [Bool.not_eq_true] at h
    have hv : wholeB ps l rs = false := by unfold wholeB; rw [h]; rfl
    rw [hv, h]
    rw [h] at HC1
    clear hv h hx hy hr hs ht
    go_enter Tryd.func17, Tryd.ntmps17
    go_wp2_with fail
    refine HC1.out.mono ?_
    rintro e w' ⟨rfl, hw⟩
    subst w'
    go_wp2
    refine bodyPost_ret (v := .tuple #[.bool false, .bool false]) (by simp [results, Tryd.results17, go_sem]; try rfl) rfl ?_
    exact ⟨rfl, Below.refl _ _⟩
  have hp := trace_pubs h
  have HC2 : Hid (Calls Tryd.prog 56 #[.slice ao n c, .int .i64 l, .slice bo m d] w fun e w' => e = .returned (.int .i64 (firstN ps l rs : Nat)) ∧ Below w.heap.size w w') := firstWithout_c ao n c ps l bo m d rs w hx hy hr hs hm ht hp
  have hle : firstN ps l rs ≤ 6 := Nat.le_trans (firstN_le ps l rs) (pubs_len hp).2
  have hn6 : n ≤ 6 := by have := pubs_len hp; omega
  have hv : wholeB ps l rs = decide (firstN ps l rs = n) := by unfold wholeB; rw [h, hx]; rfl
  rw [hv, h]
  rw [h] at HC1
  generalize firstN ps l rs = fn at HC2 hle ⊢
  have hd : ((fn : Int) == (n : Int)) = decide (fn = n) := by
    rw [Bool.eq_iff_iff]; simp; omega
  generalize decide (fn = n) = rb at hd ⊢
  clear hv h hx hy hr hs ht hp
  go_enter Tryd.func17, Tryd.ntmps17
  go_wp2_with fail
  refine HC1.out.mono ?_
  rintro e w' ⟨rfl, hw⟩
  subst w'
  go_wp2_with fail
  refine HC2.out.mono ?_
  rintro e w1 ⟨rfl, hb⟩
  have HB1 : Hid (Below w.heap.size w w1) := hb
  clear hb
  go_wp2
  refine bodyPost_ret (v := .tuple #[.bool rb, .bool true]) (by simp [results, Tryd.results17, go_sem]; try rfl) rfl ?_
  exact ⟨rfl, HB1.out⟩

def pubsL (xs : List Int) : List Int := if secsH xs = true then rootL xs else []

theorem pubsL_no {xs : List Int} (h : secsH xs = false) : pubsL xs = [] := by unfold pubsL; rw [h]; rfl

theorem pubsL_yes {xs : List Int} (h : secsH xs = true) : pubsL xs = rootL xs := by unfold pubsL; rw [h]; rfl

set_option maxHeartbeats 1000000 in
theorem implPublics_c (ao : Option Addr) (n c : Nat) (xs : List Int) (w : World) (hx : xs.length = n) (hn : n ≤ 17592186044416) (hr : Rd w ao xs) (ht : Tab w) (q : Nat) (hq : (pubsL xs).length = q) :
    Calls Tryd.prog 12 #[.slice ao n c] w fun e w' => ∃ a' c', e = .returned (.tuple #[.slice a' q c', .bool (secsH xs)]) ∧ Own w' w.heap.size (.slice a' q c') (pubsL xs) ∧ Below w.heap.size w w' := by
  have HC1 : Hid (Calls Tryd.prog 43 #[.slice ao n c, .int .i64 6, .func (.func 44) #[] #[]] w fun e w' => e = .returned (.bool (secsH xs)) ∧ w' = w) := areSomeSec_c ao n c xs w hx hn hr
  by_cases h : secsH xs = true
  case neg =>
    rw [Bool.not_eq_true] at h
    rw [pubsL_no h] at hq ⊢
    rw [h] at HC1 ⊢
    simp at hq
    subst hq
    clear h hx hr ht
    go_enter Tryd.func12, Tryd.ntmps12
    go_wp2_with fail
    refine HC1.out.mono ?_
    rintro e w' ⟨rfl, hw⟩
    subst w'
    go_wp2
    refine bodyPost_ret (v := .tuple #[.slice none 0 0, .bool false]) (by simp [results, Tryd.results12, go_sem]; try rfl) rfl ?_
    exact ⟨none, 0, rfl, World.ownsRow_nil _ _ _ _, Below.refl _ _⟩
  have hall := secsH_all h
  rw [pubsL_yes h] at hq ⊢
  obtain rfl : q = n := by rw [← hq, ← hx]; simp [rootL]
  have HC2 : Hid (Calls Tryd.prog 52 #[.slice ao q c, .func (.func 53) #[] #[]] w fun e w' => ∃ a' c', e = .returned (.slice a' q c') ∧ Own w' w.heap.size (.slice a' q c') (rootL xs) ∧ Below w.heap.size w w') := eachRoot_c ao q c xs w hx hn hr hall ht
  rw [h] at HC1 ⊢
  clear h hx hr ht hall hq
  go_enter Tryd.func12, Tryd.ntmps12
  go_wp2_with fail
  refine HC1.out.mono ?_
  rintro e w' ⟨rfl, hw⟩
  subst w'
  go_wp2_with fail
  refine HC2.out.mono ?_
  rintro e w1 ⟨a', c', rfl, ho, hb⟩
  have HO : Hid (Own w1 w.heap.size (.slice a' q c') (rootL xs)) := ho
  have HB1 : Hid (Below w.heap.size w w1) := hb
  clear hb ho
  go_wp2
  refine bodyPost_ret (v := .tuple #[.slice a' q c', .bool true]) (by simp [results, Tryd.results12, go_sem]; try rfl) rfl ?_
  exact ⟨a', c', rfl, HO.out, HB1.out⟩

end Go.Proofs.YtdhnolafkgkliaaDoor
