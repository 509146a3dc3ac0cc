/- Chapter 15: pairs unlike one another; GoodTable of the program. -/
import Derived.Test.YtbjpkklonjlmiaaG15
namespace Go.Proofs.Ytbjpkklonjlmiaa
set_option linter.unusedVariables false
set_option maxRecDepth 1000000
set_option linter.unusedSimpArgs false
open Go.RowKit

theorem below_drewN9 {B : Nat} {w w' : World} (h : Below B w w') (k : Nat) : Below B w (w'.drewN k) := ⟨h.os, h.tape, h.output, h.size, h.block⟩

theorem take_eq_succ9 {xs ys : List Int} {k : Nat} (hx : k < xs.length) (hy : k < ys.length) (h : xs.take k = ys.take k) (e : xs.getD k 0 = ys.getD k 0) : xs.take (k + 1) = ys.take (k + 1) := by
  rw [take_snoc 0 hx, take_snoc 0 hy, h, e]

set_option maxHeartbeats 2000000 in
theorem equalInt_c (ao bo : Option Addr) (n m c d : Nat) (xs ys : List Int) (w : World) (hx : xs.length = n) (hy : ys.length = m) (hn : n ≤ 17592186044416) (hm : m ≤ 17592186044416) (hr : Rd w ao xs) (hs : Rd w bo ys) :
    Calls Try.prog 61 #[.slice ao n c, .slice bo m d] w fun e w' => e = .returned (.bool (decide (xs = ys))) ∧ Below w.heap.size w w' := by
  by_cases hnm : n = m
  case neg =>
    rw [decide_eq_false (show ¬ xs = ys from fun e => hnm (by rw [← hx, ← hy, e]))]
    have hx : ((n : Int) != (m : Int)) = true := by rw [bne_iff_ne]; omega
    go_enter Try.func61, Try.ntmps61
    go_wp2
    go_ret
    exact ⟨rfl, Below.refl _ _⟩
  subst hnm
  have HX : Hid (xs.length = n) := hx
  have HY : Hid (ys.length = n) := hy
  have HR : Hid (Rd w ao xs) := hr
  have HS : Hid (Rd w bo ys) := hs
  clear hx hy hr hs
  have hnn : ((n : Int) != (n : Int)) = false := by simp
  have mixed : Try.prog.follows .mixedOrders = true := by kernel_rfl
  go_enter Try.func61, Try.ntmps61
  go_wp2
  go_loopw [13] (fun i wr => ∃ k : Nat, k ≤ n ∧ i = .int .i64 k ∧ Hid (xs.take k = ys.take k) ∧ Hid (Below w.heap.size w wr)) (fun i _ => n - (intOf i).toNat)
  case atStart => exact ⟨0, Nat.zero_le _, rfl, rfl, Below.refl _ _⟩
  case round =>
    obtain ⟨k, hk, rfl, HT, HB⟩ := hrel
    by_cases hlt : k < n
    · obtain ⟨b, o, rfl, g1⟩ := (HR.out.later HB.out).get (k := k) (by rw [HX.out]; exact hlt)
      obtain ⟨b2, o2, rfl, g2⟩ := (HS.out.later HB.out).get (k := k) (by rw [HY.out]; exact hlt)
      have h0 : (0 : Int) ≤ (k : Int) := by omega
      have hl : (k : Int) < (n : Int) := by omega
      generalize hx : xs.getD k 0 = x at g1
      generalize hy : ys.getD k 0 = y at g2
      have H1 : Hid (xs.getD k 0 = x) := hx
      have H2 : Hid (ys.getD k 0 = y) := hy
      clear hx hy
      by_cases hxy : x = y
      · subst hxy
        have ht : (x != x) = false := by simp
        have HT2 : Hid (xs.take (k + 1) = ys.take (k + 1)) := take_eq_succ9 (by rw [HX.out]; omega) (by rw [HY.out]; omega) HT.out (H1.out.trans H2.out.symm)
        go_wp2
        go_quiet (fail)
        go_wp2
        go_roundw
        case rel => exact ⟨k + 1, by omega, by go_num, HT2, below_drewN9 HB.out _⟩
        case measure => simp [intOf]; omega
      · have ht : (x != y) = true := by simpa using hxy
        have HN : Hid ((false : Bool) = decide (xs = ys)) := (decide_eq_false (fun e => hxy (by rw [← H1.out, ← H2.out, e]))).symm
        go_wp2
        go_quiet (fail)
        go_wp2
        go_ret
        exact ⟨ret_bool HN.out, below_drewN9 HB.out _⟩
    · obtain rfl : k = n := by omega
      have HE : Hid ((true : Bool) = decide (xs = ys)) := by
        have := HT.out
        rw [List.take_of_length_le (by rw [HX.out]; exact Nat.le_refl _), List.take_of_length_le (by rw [HY.out]; exact Nat.le_refl _)] at this
        exact (decide_eq_true this).symm
      go_wp2
      go_ret
      exact ⟨ret_bool HE.out, HB.out⟩

theorem RdII.front {w : World} {ao : Option Addr} {xss : List (List Int)} (h : RdII w ao xss) (k : Nat) : RdII w ao (xss.take k) := by
  rcases h with rfl | ⟨b, o, rfl, hc⟩
  · exact Or.inl (by simp)
  · refine Or.inr ⟨b, o, rfl, fun j hj => ?_⟩
    rw [List.length_take] at hj
    have e : (xss.take k).getD j [] = xss.getD j [] := by simp [List.getD, List.getElem?_take, show j < k by omega]
    rw [e]
    exact hc j (by omega)

set_option maxHeartbeats 2000000 in
theorem indexFuncII_c (gp : Nat) (ro : Option Addr) (rn rc : Nat) (p : List Int) (ao : Option Addr) (n c : Nat) (xs : List (List Int)) (w : World) (hx : xs.length = n) (hn : n ≤ 17592186044416) (hr : RdII w ao xs) (hl : ∀ l ∈ xs, l.length ≤ 17592186044416) (hp : p.length = rn) (hrn : rn ≤ 17592186044416) (hrp : Rd w ro p) (hc : w.cell? ⟨gp, 0, none⟩ = some (.slice ro rn rc)) :
    Calls Try.prog 72 #[.slice ao n c, .func (.func 60) #[] #[.pointer (some ⟨gp, 0, none⟩)]] w fun e w' => ∃ r : Int, e = .returned (.int .i64 r) ∧ decide (0 ≤ r) = decide (p ∈ xs) ∧ Below w.heap.size w w' := by
  have HX : Hid (xs.length = n) := hx
  have HR : Hid (RdII w ao xs) := hr
  have HL : Hid (∀ l ∈ xs, l.length ≤ 17592186044416) := hl
  have HE : Hid (∀ (wx : World) (so : Option Addr) (sn sc : Nat) (l : List Int), Below w.heap.size w wx → l.length = sn → sn ≤ 17592186044416 → Rd wx so l → Calls Try.prog 60 #[.slice so sn sc, .pointer (some ⟨gp, 0, none⟩)] wx fun e w' => e = .returned (.bool (decide (p = l))) ∧ Below wx.heap.size wx w') := fun wx so sn sc l hb h1 h2 h3 => by
    have g := cell_keep (S := 0) hb hc
    have q := equalInt_c ro so rn sn rc sc p l wx hp h1 hrn h2 (hrp.later hb) h3
    generalize decide (p = l) = zb at q ⊢
    clear hc hrp hp h1 h2 h3 hb hr hl hx HX HR HL
    go_enter Try.func60, Try.ntmps60
    go_wp2_with fail
    refine q.mono ?_
    clear q
    rintro e w1 ⟨rfl, hb⟩
    go_wp2
    go_ret
    exact ⟨rfl, hb⟩
  clear hx hr hl hp hrp hc hrn
  go_enter Try.func72, Try.ntmps72
  go_wp2
  go_loopw [8] (fun i wr => ∃ k : Nat, k ≤ n ∧ i = .int .i64 k ∧ Hid (p ∉ xs.take k) ∧ Hid (Below w.heap.size w wr)) (fun i _ => n - (intOf i).toNat)
  case atStart => exact ⟨0, Nat.zero_le _, rfl, by show _ ∉ _; simp, Below.refl _ _⟩
  case round =>
    obtain ⟨k, hk, rfl, HS, HB⟩ := hrel
    by_cases hlt : k < n
    · have hkl : k < xs.length := by rw [HX.out]; exact hlt
      obtain ⟨b, o, so, sc, rfl, g0, hro⟩ := (HR.out.later HB.out).get hkl
      have q := HE.out wr so (xs.getD k []).length sc (xs.getD k []) HB.out rfl (HL.out _ (mem_getD [] hkl)) hro
      have hno : p ≠ xs.getD k [] → p ∉ xs.take (k + 1) := fun h => by
        rw [take_snoc [] hkl, List.mem_append, List.mem_singleton]
        rintro (h2 | h2)
        · exact HS.out h2
        · exact h h2
      have hyes : p = xs.getD k [] → p ∈ xs := fun h => by rw [h]; exact mem_getD [] hkl
      generalize (xs.getD k []).length = sn at g0 q
      generalize xs.getD k [] = l at hro hno hyes q
      have h0 : (0 : Int) ≤ (k : Int) := by omega
      have hl : (k : Int) < (n : Int) := by omega
      clear hro hkl
      by_cases hpl : p = l
      · have HY : Hid (p ∈ xs) := hyes hpl
        rw [decide_eq_true hpl] at q
        clear hno hyes hpl
        go_wp2_with fail
        refine q.mono ?_
        clear q
        rintro e w1 ⟨rfl, hb⟩
        have HB1 : Hid (Below w.heap.size w w1) := HB.out.trans (hb.mono HB.out.size)
        clear hb
        go_wp2
        go_ret
        exact ⟨(k : Int), rfl, by rw [decide_eq_true HY.out]; simp, HB1.out⟩
      · have HN : Hid (p ∉ xs.take (k + 1)) := hno hpl
        rw [decide_eq_false hpl] at q
        clear hno hyes hpl
        go_wp2_with fail
        refine q.mono ?_
        clear q
        rintro e w1 ⟨rfl, hb⟩
        have HB1 : Hid (Below w.heap.size w w1) := HB.out.trans (hb.mono HB.out.size)
        clear hb
        go_wp2
        go_roundw
        case rel => exact ⟨k + 1, by omega, by go_num, HN, HB1⟩
        case measure => simp [intOf]; omega
    · obtain rfl : k = n := by omega
      have HN : Hid (p ∉ xs) := by have := HS.out; rwa [List.take_of_length_le (by rw [HX.out]; exact Nat.le_refl _)] at this
      go_wp2
      go_ret
      exact ⟨-1, rfl, by rw [decide_eq_false HN.out]; rfl, HB.out⟩

theorem containsFuncII_c (gp : Nat) (ro : Option Addr) (rn rc : Nat) (p : List Int) (ao : Option Addr) (n c : Nat) (xs : List (List Int)) (w : World) (hx : xs.length = n) (hn : n ≤ 17592186044416) (hr : RdII w ao xs) (hl : ∀ l ∈ xs, l.length ≤ 17592186044416) (hp : p.length = rn) (hrn : rn ≤ 17592186044416) (hrp : Rd w ro p) (hc : w.cell? ⟨gp, 0, none⟩ = some (.slice ro rn rc)) :
    Calls Try.prog 62 #[.slice ao n c, .func (.func 60) #[] #[.pointer (some ⟨gp, 0, none⟩)]] w fun e w' => e = .returned (.bool (decide (p ∈ xs))) ∧ Below w.heap.size w w' := by
  have q := indexFuncII_c gp ro rn rc p ao n c xs w hx hn hr hl hp hrn hrp hc
  generalize decide (p ∈ xs) = zb at q ⊢
  clear hx hr hl hp hrp hc
  go_enter Try.func62, Try.ntmps62
  go_wp2_with fail
  refine q.mono ?_
  clear q
  rintro e w1 ⟨r, rfl, hd, hb⟩
  go_wp2
  go_ret
  exact ⟨ret_bool (by rw [← hd]), hb⟩

theorem newAt_eq (ps : List (List Int)) (k : Nat) : newAt ps k = !decide (ps.getD k [] ∈ ps.take k) := by unfold newAt; simp

set_option maxHeartbeats 2000000 in
theorem areUnlike_c (ao : Option Addr) (n c : Nat) (ps : List (List Int)) (w : World) (hx : ps.length = n) (hn : n ≤ 17592186044416) (hcp : n ≤ c) (hr : RdII w ao ps) (hl : ∀ l ∈ ps, l.length ≤ 17592186044416) :
    Calls Try.prog 41 #[.slice ao n c] w fun e w' => e = .returned (.bool (unlB ps)) ∧ Below w.heap.size w w' := by
  have HX : Hid (ps.length = n) := hx
  have HR : Hid (RdII w ao ps) := hr
  have HL : Hid (∀ l ∈ ps, l.length ≤ 17592186044416) := hl
  have HF : Hid (∀ k, k < n → newAt ps k = false → unlB ps = false) := fun k hk h => by
    unfold unlB
    rw [List.all_eq_false]
    exact ⟨k, List.mem_range.2 (by omega), by rw [h]; simp⟩
  have HE : Hid ((∀ j, j < n → newAt ps j = true) → unlB ps = true) := fun h => by
    unfold unlB
    rw [List.all_eq_true]
    exact fun j hj => h j (by rw [← hx]; exact List.mem_range.1 hj)
  generalize unlB ps = zb at HF HE ⊢
  clear hx hr hl
  go_enter Try.func41, Try.ntmps41
  go_wp2
  go_loopw [8] (fun i wr => ∃ k : Nat, k ≤ n ∧ i = .int .i64 k ∧ Hid (∀ j, j < k → newAt ps j = true) ∧ Hid (Below w.heap.size w wr)) (fun i _ => n - (intOf i).toNat)
  case atStart => exact ⟨0, Nat.zero_le _, rfl, fun j h => absurd h (by omega), Below.refl _ _⟩
  case round =>
    obtain ⟨k, hk, rfl, HS, HB⟩ := hrel
    by_cases hlt : k < n
    · have hkl : k < ps.length := by rw [HX.out]; exact hlt
      obtain ⟨b, o, ro, rc, rfl, g0, hro⟩ := (HR.out.later HB.out).get hkl
      have hb1 := balloc wr (.cells #[.slice ro (ps.getD k []).length rc] 24)
      have hcl : (wr.alloc (.cells #[.slice ro (ps.getD k []).length rc] 24)).cell? ⟨wr.heap.size, 0, none⟩ = some (.slice ro (ps.getD k []).length rc) := by simp
      have HBV : Hid (Below w.heap.size w (wr.alloc (.cells #[.slice ro (ps.getD k []).length rc] 24))) := HB.out.alloc HB.out.size _
      have q := containsFuncII_c wr.heap.size ro (ps.getD k []).length rc (ps.getD k []) (some ⟨b, o, none⟩) k c (ps.take k) (wr.alloc (.cells #[.slice ro (ps.getD k []).length rc] 24)) (by rw [List.length_take, HX.out]; omega) (by omega) ((HR.out.later HBV.out).front k) (fun l h => HL.out l (List.mem_of_mem_take h)) rfl (HL.out _ (mem_getD [] hkl)) (hro.later hb1) hcl
      have hnw := newAt_eq ps k
      generalize decide (ps.getD k [] ∈ ps.take k) = db at q hnw
      have hfz : (wr.alloc (.cells #[.slice none 0 0] 24)).frozen? ⟨wr.heap.size, 0, none⟩ = false := by simp
      generalize (ps.getD k []).length = rn at g0 q HBV hcl
      have h0 : (0 : Int) ≤ (k : Int) := by omega
      have hl : (k : Int) < (n : Int) := by omega
      have hlc : (k : Int) ≤ (c : Int) := by omega
      clear hro hkl hb1 hcl hfz
      have HNW : Hid (newAt ps k = !db) := hnw
      clear hnw
      cases db
      · have HS2 : Hid (∀ j, j < k + 1 → newAt ps j = true) := fun j hj => by
          by_cases e : j = k
          · rw [e, HNW.out]; rfl
          · exact HS.out j (by omega)
        go_wp2_with fail
        refine q.mono ?_
        clear q
        rintro e w1 ⟨rfl, hb⟩
        have HB1 : Hid (Below w.heap.size w w1) := HBV.out.trans (hb.mono HBV.out.size)
        clear hb
        go_wp2
        go_roundw
        case rel => exact ⟨k + 1, by omega, by go_num, HS2, HB1⟩
        case measure => simp [intOf]; omega
      · have HN : Hid (zb = false) := HF.out k hlt (by rw [HNW.out]; rfl)
        go_wp2_with fail
        refine q.mono ?_
        clear q
        rintro e w1 ⟨rfl, hb⟩
        have HB1 : Hid (Below w.heap.size w w1) := HBV.out.trans (hb.mono HBV.out.size)
        clear hb
        go_wp2
        go_ret
        exact ⟨ret_bool HN.out.symm, HB1.out⟩
    · obtain rfl : k = n := by omega
      have HM : Hid (zb = true) := HE.out HS.out
      go_wp2
      go_ret
      exact ⟨ret_bool HM.out.symm, HB.out⟩

end Go.Proofs.Ytbjpkklonjlmiaa
