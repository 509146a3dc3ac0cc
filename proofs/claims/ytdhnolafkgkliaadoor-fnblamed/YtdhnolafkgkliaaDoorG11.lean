/- Chapter 11: the program's search for receipts. -/
import Derived.Test.YtdhnolafkgkliaaDoorF11
namespace Go.Proofs.YtdhnolafkgkliaaDoor
set_option linter.unusedVariables false
set_option maxRecDepth 1000000
set_option linter.unusedSimpArgs false
open Go.RowKit

/-- The three captured variables. -/
def Cap (w : World) (gp gh gl : Nat) (p h l : Int) : Prop := w.cell? ⟨gp, 0, none⟩ = some (.int .i64 p) ∧ w.cell? ⟨gh, 0, none⟩ = some (.int .i64 h) ∧ w.cell? ⟨gl, 0, none⟩ = some (.int .i64 l)

theorem Cap.later {w w' : World} {gp gh gl : Nat} {p h l : Int} (hc : Cap w gp gh gl p h l) (hb : Below w.heap.size w w') : Cap w' gp gh gl p h l :=
  ⟨cell_keep (S := 0) hb hc.1, cell_keep (S := 0) hb hc.2.1, cell_keep (S := 0) hb hc.2.2⟩

theorem cell_at1 (w : World) (v : Value) (t : TypeId) (g : Nat) (hg : g = w.heap.size) : (w.alloc (.cells #[v] t)).cell? ⟨g, 0, none⟩ = some v := by subst hg; simp

theorem cap_new (w : World) (h p l : Int) (t : TypeId) : Cap (((w.alloc (.cells #[.int .i64 h] t)).alloc (.cells #[.int .i64 p] t)).alloc (.cells #[.int .i64 l] t)) (w.heap.size + 1) w.heap.size (w.heap.size + 1 + 1) p h l :=
  ⟨calloc (cell_at1 _ _ _ _ (by simp)), calloc (calloc (cell_at1 _ _ _ _ rfl)), cell_at1 _ _ _ _ (by simp)⟩

set_option maxHeartbeats 1000000 in
theorem hasRec1_c (gp gh gl : Nat) (p h l a b c d : Int) (w : World) (hC : Cap w gp gh gl p h l) (hh : -4611686018427387904 ≤ h ∧ h ≤ 4611686018427387904) (ht : Tab w) :
    Calls Tryd.prog 88 #[.agg #[.int .i64 a, .int .i64 b, .int .i64 c, .int .i64 d], .pointer (some ⟨gp, 0, none⟩), .pointer (some ⟨gh, 0, none⟩), .pointer (some ⟨gl, 0, none⟩)] w fun e w' => e = .returned (.bool (rightB p (a, b, c, d) && forB a b c h l)) ∧ Below w.heap.size w w' := by
  have c1 : Hid (∀ wx, Tab wx → Calls Tryd.prog 19 #[.int .i64 p, .agg #[.int .i64 a, .int .i64 b, .int .i64 c, .int .i64 d]] wx fun e w' => e = .returned (.tuple #[.bool (rightB p (a, b, c, d)), .bool (checkB p (a, b, c, d))]) ∧ Below wx.heap.size wx w') := fun wx hx => implCheck_c p a b c d wx hx
  have c2 := fun wx => isReceiptFor_c a b c d h l wx hh
  generalize rightB p (a, b, c, d) = rb at c1 ⊢
  generalize checkB p (a, b, c, d) = cb at c1
  generalize forB a b c h l = fb at c2 ⊢
  have HX0 : Hid (X4 (w.alloc (.cells #[.int .i64 a, .int .i64 b, .int .i64 c, .int .i64 d] 43)) w.heap.size (.int .i64 a) (.int .i64 b) (.int .i64 c) (.int .i64 d)) := x4_new w _ _ _ _ _ _ rfl
  have HB0 : Hid (Below w.heap.size w (w.alloc (.cells #[.int .i64 a, .int .i64 b, .int .i64 c, .int .i64 d] 43))) := balloc w _
  have HC0 : Hid (Cap (w.alloc (.cells #[.int .i64 a, .int .i64 b, .int .i64 c, .int .i64 d] 43)) gp gh gl p h l) := hC.later (balloc w _)
  have HT0 : Hid (Tab (w.alloc (.cells #[.int .i64 a, .int .i64 b, .int .i64 c, .int .i64 d] 43))) := ht.keep (balloc w _)
  obtain ⟨V0, hV0⟩ : ∃ V, w.alloc (.cells #[.int .i64 a, .int .i64 b, .int .i64 c, .int .i64 d] 43) = V := ⟨_, rfl⟩
  rw [hV0] at HX0 HB0 HC0 HT0
  obtain ⟨⟨q0, q1, q2, q3⟩, qf⟩ := id HX0.out
  obtain ⟨k0, k1, k2⟩ := id HC0.out
  clear qf hC ht
  go_enter Tryd.func88, Tryd.ntmps88
  go_wp2_with fail
  refine (c1.out _ HT0.out).mono ?_
  rintro e w1 ⟨rfl, hb⟩
  have HB1 : Hid (Below w.heap.size w w1) := HB0.out.trans (hb.mono HB0.out.size)
  have hX1 := HX0.out.later hb
  have hC1 := HC0.out.later hb
  clear q0 q1 q2 q3 k0 k1 k2 hV0 hb
  obtain ⟨⟨q0, q1, q2, q3⟩, qf⟩ := hX1
  obtain ⟨k0, k1, k2⟩ := hC1
  clear qf
  by_cases hr : rb = true
  case neg =>
    rw [Bool.not_eq_true] at hr
    subst hr
    go_wp2
    go_ret
    exact ⟨rfl, HB1.out⟩
  subst hr
  go_wp2_with fail
  refine (c2 _).mono ?_
  rintro e w2 ⟨rfl, hb⟩
  have HB2 : Hid (Below w.heap.size w w2) := HB1.out.trans (hb.mono HB1.out.size)
  clear hb
  go_wp2
  go_ret
  exact ⟨rfl, HB2.out⟩

set_option maxHeartbeats 2000000 in
theorem indexFuncR_c (gp gh gl : Nat) (p h l : Int) (ao : Option Addr) (n c : Nat) (rs : List Rc) (w : World) (hx : rs.length = n) (hn : n ≤ 17592186044416) (hr : RdR w ao rs) (hC : Cap w gp gh gl p h l) (hh : -4611686018427387904 ≤ h ∧ h ≤ 4611686018427387904) (ht : Tab w) (hp : memB p = true) :
    Calls Tryd.prog 89 #[.slice ao n c, .func (.func 88) #[] #[.pointer (some ⟨gp, 0, none⟩), .pointer (some ⟨gh, 0, none⟩), .pointer (some ⟨gl, 0, none⟩)]] w fun e w' => ∃ r : Int, e = .returned (.int .i64 r) ∧ decide (0 ≤ r) = hasR p h l rs ∧ Below w.heap.size w w' := by
  have HX : Hid (rs.length = n) := hx
  have HR : Hid (RdR w ao rs) := hr
  have HC : Hid (Cap w gp gh gl p h l) := hC
  have HT : Hid (Tab w) := ht
  have HP : Hid (memB p = true) := hp
  clear hx hr hC ht hp
  go_enter Tryd.func89, Tryd.ntmps89
  go_wp2
  go_loopw [8] (fun i wr => ∃ k : Nat, k ≤ n ∧ i = .int .i64 k ∧ Hid (hasR p h l (rs.take k) = false) ∧ Hid (Below w.heap.size w wr)) (fun i _ => n - (intOf i).toNat)
  case atStart => exact ⟨0, Nat.zero_le _, rfl, by show _ = _; simp [hasR], Below.refl _ _⟩
  case round =>
    obtain ⟨k, hk, rfl, HS, HB⟩ := hrel
    by_cases hlt : k < n
    · have hkl : k < rs.length := by rw [HX.out]; exact hlt
      obtain ⟨b, o, rfl, g0, g1, g2, g3⟩ := (HR.out.later HB.out).get hkl
      have hrun := fun wx hc htx => hasRec1_c gp gh gl p h l (rs.getD k (0, 0, 0, 0)).1 (rs.getD k (0, 0, 0, 0)).2.1 (rs.getD k (0, 0, 0, 0)).2.2.1 (rs.getD k (0, 0, 0, 0)).2.2.2 wx hc hh htx
      have hsay : (rightB p (rs.getD k (0, 0, 0, 0)) && forB (rs.getD k (0, 0, 0, 0)).1 (rs.getD k (0, 0, 0, 0)).2.1 (rs.getD k (0, 0, 0, 0)).2.2.1 h l) = saysR p h l (rs.getD k (0, 0, 0, 0)) := says_eq HP.out _
      rw [show ((rs.getD k (0, 0, 0, 0)).1, (rs.getD k (0, 0, 0, 0)).2.1, (rs.getD k (0, 0, 0, 0)).2.2.1, (rs.getD k (0, 0, 0, 0)).2.2.2) = rs.getD k (0, 0, 0, 0) from rfl, hsay] at hrun
      have hno : saysR p h l (rs.getD k (0, 0, 0, 0)) = false → hasR p h l (rs.take (k + 1)) = false := fun hs => hasR_take k hkl HS.out hs
      have hyes : saysR p h l (rs.getD k (0, 0, 0, 0)) = true → hasR p h l rs = true := fun hs => hasR_at hkl hs
      clear hsay hkl
      generalize saysR p h l (rs.getD k (0, 0, 0, 0)) = sb at hrun hno hyes
      generalize (rs.getD k (0, 0, 0, 0)).1 = x0 at g0 hrun
      generalize (rs.getD k (0, 0, 0, 0)).2.1 = x1 at g1 hrun
      generalize (rs.getD k (0, 0, 0, 0)).2.2.1 = x2 at g2 hrun
      generalize (rs.getD k (0, 0, 0, 0)).2.2.2 = x3 at g3 hrun
      have HRun : Hid (Calls Tryd.prog 88 #[.agg #[.int .i64 x0, .int .i64 x1, .int .i64 x2, .int .i64 x3], .pointer (some ⟨gp, 0, none⟩), .pointer (some ⟨gh, 0, none⟩), .pointer (some ⟨gl, 0, none⟩)] wr fun e w' => e = .returned (.bool sb) ∧ Below wr.heap.size wr w') := hrun wr (HC.out.later HB.out) (HT.out.keep HB.out)
      clear hrun
      have h0 : (0 : Int) ≤ (k : Int) := by omega
      have hl : (k : Int) < (n : Int) := by omega
      by_cases hsb : sb = true
      · have HY : Hid (hasR p h l rs = true) := hyes hsb
        subst hsb
        clear hno hyes
        go_wp2_with fail
        refine HRun.out.mono ?_
        rintro e w1 ⟨rfl, hb⟩
        have HB1 : Hid (Below w.heap.size w w1) := HB.out.trans (hb.mono HB.out.size)
        clear hb
        go_wp2
        go_ret
        exact ⟨(k : Int), rfl, by rw [HY.out]; simp, HB1.out⟩
      · rw [Bool.not_eq_true] at hsb
        have HN : Hid (hasR p h l (rs.take (k + 1)) = false) := hno hsb
        subst hsb
        clear hno hyes
        go_wp2_with fail
        refine HRun.out.mono ?_
        rintro e w1 ⟨rfl, hb⟩
        have HB1 : Hid (Below w.heap.size w w1) := HB.out.trans (hb.mono HB.out.size)
        clear hb
        go_wp2
        go_roundw
        case rel => exact ⟨k + 1, by omega, by go_num, HN, HB1⟩
        case measure => simp [intOf]; omega
    · obtain rfl : k = n := by omega
      have HN : Hid (hasR p h l rs = false) := by have := HS.out; rwa [List.take_of_length_le (by rw [HX.out]; exact Nat.le_refl _)] at this
      go_wp2
      go_ret
      exact ⟨-1, rfl, by rw [HN.out]; rfl, HB.out⟩

theorem containsFuncR_c (gp gh gl : Nat) (p h l : Int) (ao : Option Addr) (n c : Nat) (rs : List Rc) (w : World) (hx : rs.length = n) (hn : n ≤ 17592186044416) (hr : RdR w ao rs) (hC : Cap w gp gh gl p h l) (hh : -4611686018427387904 ≤ h ∧ h ≤ 4611686018427387904) (ht : Tab w) (hp : memB p = true) :
    Calls Tryd.prog 87 #[.slice ao n c, .func (.func 88) #[] #[.pointer (some ⟨gp, 0, none⟩), .pointer (some ⟨gh, 0, none⟩), .pointer (some ⟨gl, 0, none⟩)]] w fun e w' => e = .returned (.bool (hasR p h l rs)) ∧ Below w.heap.size w w' := by
  have HQ : Hid (Calls Tryd.prog 89 #[.slice ao n c, .func (.func 88) #[] #[.pointer (some ⟨gp, 0, none⟩), .pointer (some ⟨gh, 0, none⟩), .pointer (some ⟨gl, 0, none⟩)]] w fun e w' => ∃ r : Int, e = .returned (.int .i64 r) ∧ decide (0 ≤ r) = hasR p h l rs ∧ Below w.heap.size w w') := indexFuncR_c gp gh gl p h l ao n c rs w hx hn hr hC hh ht hp
  generalize hasR p h l rs = hb0 at HQ ⊢
  clear hx hr hC ht hp
  go_enter Tryd.func87, Tryd.ntmps87
  go_wp2_with fail
  refine HQ.out.mono ?_
  rintro e w1 ⟨r, rfl, hd, hb⟩
  go_wp2
  go_ret
  exact ⟨ret_bool (by rw [← hd]), hb⟩

set_option maxHeartbeats 1000000 in
theorem hasReceiptOf_c (p h l : Int) (ao : Option Addr) (n c : Nat) (rs : List Rc) (w : World) (hx : rs.length = n) (hn : n ≤ 17592186044416) (hr : RdR w ao rs) (hh : -4611686018427387904 ≤ h ∧ h ≤ 4611686018427387904) (ht : Tab w) (hp : memB p = true) :
    Calls Tryd.prog 81 #[.int .i64 h, .int .i64 p, .int .i64 l, .slice ao n c] w fun e w' => e = .returned (.bool (hasR p h l rs)) ∧ Below w.heap.size w w' := by
  have HR : Hid (RdR w ao rs) := hr
  have HT : Hid (Tab w) := ht
  have HQ : Hid (∀ wx gp gh gl, RdR wx ao rs → Cap wx gp gh gl p h l → Tab wx → Calls Tryd.prog 87 #[.slice ao n c, .func (.func 88) #[] #[.pointer (some ⟨gp, 0, none⟩), .pointer (some ⟨gh, 0, none⟩), .pointer (some ⟨gl, 0, none⟩)]] wx fun e w' => e = .returned (.bool (hasR p h l rs)) ∧ Below wx.heap.size wx w') := fun wx gp gh gl h1 h2 h3 => containsFuncR_c gp gh gl p h l ao n c rs wx hx hn h1 h2 hh h3 hp
  generalize hasR p h l rs = hb0 at HQ ⊢
  have HB : Hid (∀ o1 o2 o3, Below w.heap.size w (((w.alloc o1).alloc o2).alloc o3)) := fun o1 o2 o3 => below_three w o1 o2 o3
  clear hr ht hp hx
  go_enter Tryd.func81, Tryd.ntmps81
  go_wp2_with fail
  refine (HQ.out _ _ _ _ (HR.out.later (HB.out _ _ _)) (cap_new w h p l _) (HT.out.keep (HB.out _ _ _))).mono ?_
  rintro e w1 ⟨rfl, hb⟩
  have HB1 : Hid (Below w.heap.size w w1) := (HB.out _ _ _).trans (hb.mono (HB.out _ _ _).size)
  clear hb
  go_wp2
  go_ret
  exact ⟨rfl, HB1.out⟩

end Go.Proofs.YtdhnolafkgkliaaDoor
