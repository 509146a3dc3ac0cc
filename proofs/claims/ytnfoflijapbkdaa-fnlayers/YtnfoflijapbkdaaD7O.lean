/- What chapter 7 draws: onions to be built, walked. -/
import Derived.Test.YtnfoflijapbkdaaD7R
import Derived.Test.YtnfoflijapbkdaaBD7
namespace Go.Proofs.Ytnfoflijapbkdaa
set_option linter.unusedVariables false
set_option maxRecDepth 1000000
set_option linter.unusedSimpArgs false
open Go.RowKit

theorem buildF_size {xs ys : List Int} {s t : ByteArray} {fb : Bool} (h : buildF xs ys s = (t, fb)) : t.size ≤ 24 ∧ (fb = true → t.size = 24) := by
  unfold buildF at h
  by_cases hg : buildG xs ys s = true
  · rw [if_pos hg] at h
    have ht := (Prod.mk.inj h).1
    unfold buildG at hg
    simp only [Bool.and_eq_true, decide_eq_true_eq] at hg
    have hl : t.size = 24 := by rw [← ht, tx_size, buildB_length (by rw [bl_length]; exact hg.2.2.2.2) _ (layers_pads hg.2.1)]
    exact ⟨by omega, fun _ => hl⟩
  · rw [if_neg hg] at h
    obtain ⟨h1, h2⟩ := Prod.mk.inj h
    rw [← h1, ← h2]
    exact ⟨by decide, fun h => by cases h⟩

def DrawnOn (w : World) (e : Ending) (w' : World) : Prop := ∃ a1 q1 c1 ks a2 q2 c2 hs s, e = .returned (.tuple #[.slice a1 q1 c1, .slice a2 q2 c2, .string s]) ∧ 1 ≤ q1 ∧ q1 ≤ 5 ∧ q2 ≤ 5 ∧ ks.length = q1 ∧ hs.length = q2 ∧ s.size ≤ 100 ∧ Own w' w.heap.size (.slice a1 q1 c1) ks ∧ Own w' w.heap.size (.slice a2 q2 c2) hs ∧ Below w.heap.size w w'

set_option maxHeartbeats 1000000 in
theorem drawBuild_c (ao : Option Addr) (n c : Nat) (w : World) (hn : n ≤ 9223372036854775807) (h : CodeOk w w.heap.size ao n) :
    Calls Try.prog 13 #[.slice ao n c] w (DrawnOn w) := by
  have C0 : Hid (Cur (w.alloc (.cells #[.slice ao n c, .int .i64 0, .int .u64 0] 62)) w.heap.size ao n c 0) := cur_new _ hn h
  have G0 : Hid (GB w.heap.size w (w.alloc (.cells #[.slice ao n c, .int .i64 0, .int .u64 0] 62))) := (GB.refl _ _).alloc _
  have hz0 : w.heap.size + 1 ≤ (w.alloc (.cells #[.slice ao n c, .int .i64 0, .int .u64 0] 62)).heap.size := by simp
  have HZ0 : Hid (w.heap.size + 1 ≤ (w.alloc (.cells #[.slice ao n c, .int .i64 0, .int .u64 0] 62)).heap.size) := hz0
  clear h hz0
  go_enter Try.func13, Try.ntmps13
  go_wp2_with fail
  refine (route_c w.heap.size ao n c 0 _ (by omega) (by omega) C0.out).mono ?_
  rintro e w1 ⟨a1, q1, c1, ks, a2, q2, c2, hs, rfl, h1, h2, h3, h4, hk, hh, ho1, ho2, hsep, hc1, hg1⟩
  have C1 : Hid (Cur w1 w.heap.size ao n c 100) := hc1.mono (by omega)
  have G1 : Hid (GB w.heap.size w w1) := G0.out.trans hg1
  have O1 : Hid (Own w1 (w.heap.size + 1) (.slice a1 q1 c1) ks) := ho1.mono HZ0.out
  have O2 : Hid (Own w1 (w.heap.size + 1) (.slice a2 q2 c2) hs) := ho2.mono HZ0.out
  have HK : Hid (ks.length = q1) := hk
  have HH : Hid (hs.length = q2) := hh
  clear hc1 hg1 C0 G0 ho1 ho2 hk hh hsep
  go_wp2_with fail
  refine (body_c w.heap.size ao n c 100 _ (by omega) C1.out).mono ?_
  rintro e w2 ⟨s, rfl, hs2, hc1, hg1⟩
  have G2 : Hid (GB w.heap.size w w2) := G1.out.trans hg1
  have P1 : Hid (Own w2 (w.heap.size + 1) (.slice a1 q1 c1) ks) := O1.out.kept hg1 (sep_own O1.out (by omega))
  have P2 : Hid (Own w2 (w.heap.size + 1) (.slice a2 q2 c2) hs) := O2.out.kept hg1 (sep_own O2.out (by omega))
  clear hc1 hg1 C1 G1 O1 O2
  go_wp2
  refine bodyPost_ret (v := .tuple #[.slice a1 q1 c1, .slice a2 q2 c2, .string s]) (by simp [results, Try.results13, go_sem]; try rfl) rfl ?_
  exact ⟨a1, q1, c1, ks, a2, q2, c2, hs, s, rfl, h1, h2, h4, HK.out, HH.out, hs2, P1.out.mono (by omega), P2.out.mono (by omega), G2.out.below (Nat.le_refl _) (Nat.le_refl _)⟩

def DrawnWk (w : World) (e : Ending) (w' : World) : Prop := ∃ a1 q1 c1 ks s, e = .returned (.tuple #[.slice a1 q1 c1, .string s]) ∧ q1 ≤ 5 ∧ ks.length = q1 ∧ s.size ≤ 100 ∧ Own w' w.heap.size (.slice a1 q1 c1) ks ∧ Below w.heap.size w w'

set_option maxHeartbeats 2000000 in
theorem drawWalk_c (ao : Option Addr) (n c : Nat) (w : World) (hn : n ≤ 9223372036854775807) (h : CodeOk w w.heap.size ao n) :
    Calls Try.prog 21 #[.slice ao n c] w (DrawnWk w) := by
  have C0 : Hid (Cur (w.alloc (.cells #[.slice ao n c, .int .i64 0, .int .u64 0] 62)) w.heap.size ao n c 0) := cur_new _ hn h
  have G0 : Hid (GB w.heap.size w (w.alloc (.cells #[.slice ao n c, .int .i64 0, .int .u64 0] 62))) := (GB.refl _ _).alloc _
  have HZ0 : Hid (w.heap.size + 1 ≤ (w.alloc (.cells #[.slice ao n c, .int .i64 0, .int .u64 0] 62)).heap.size) := by show _ ≤ _; simp
  clear h
  go_enter Try.func21, Try.ntmps21
  go_wp2_with fail
  refine (route_c w.heap.size ao n c 0 _ (by omega) (by omega) C0.out).mono ?_
  rintro e w1 ⟨a1, q1, c1, ks, a2, q2, c2, hs, rfl, h1, h2, h3, h4, hk, hh, ho1, ho2, hsep, hc1, hg1⟩
  have C1 : Hid (Cur w1 w.heap.size ao n c 100) := hc1.mono (by omega)
  have G1 : Hid (GB w.heap.size w w1) := G0.out.trans hg1
  have O1 : Hid (Own w1 (w.heap.size + 1) (.slice a1 q1 c1) ks) := ho1.mono HZ0.out
  have O2 : Hid (Own w1 (w.heap.size + 1) (.slice a2 q2 c2) hs) := ho2.mono HZ0.out
  have HK : Hid (ks.length = q1) := hk
  have HH : Hid (hs.length = q2) := hh
  clear hc1 hg1 C0 G0 ho1 ho2 hk hh hsep
  go_wp2_with fail
  refine (body_c w.heap.size ao n c 100 _ (by omega) C1.out).mono ?_
  rintro e w2 ⟨s, rfl, hs2, hc1, hg1⟩
  have C2 : Hid (Cur w2 w.heap.size ao n c 102) := hc1.mono (by omega)
  have G2 : Hid (GB w.heap.size w w2) := G1.out.trans hg1
  have P1 : Hid (Own w2 (w.heap.size + 1) (.slice a1 q1 c1) ks) := O1.out.kept hg1 (sep_own O1.out (by omega))
  have P2 : Hid (Own w2 (w.heap.size + 1) (.slice a2 q2 c2) hs) := O2.out.kept hg1 (sep_own O2.out (by omega))
  obtain ⟨t, fb, hF⟩ : ∃ t fb, buildF ks hs s = (t, fb) := ⟨_, _, rfl⟩
  have ht : t.size ≤ 24 := (buildF_size hF).1
  have HF : Hid (buildF ks hs s = (t, fb)) := hF
  clear hc1 hg1 C1 G1 O1 O2 hF
  go_wp2_with fail
  refine (specBuild_c a1 q1 c1 a2 q2 c2 s ks hs _ HK.out HH.out (by omega) (by omega) (by omega) P1.out.rd'.2 P2.out.rd'.2 t fb HF.out).mono ?_
  rintro e w3 ⟨rfl, hb⟩
  have C3 : Hid (Cur w3 w.heap.size ao n c 102) := C2.out.later hb
  have G3 : Hid (GB w.heap.size w w3) := G2.out.trans (GB.of_below hb (Nat.le_refl _))
  have Q1 : Hid (Own w3 (w.heap.size + 1) (.slice a1 q1 c1) ks) := P1.out.later hb
  clear hb C2 G2 P1 P2 HF
  by_cases hq : q1 = 1
  · have hq1 : ¬ (1 : Int) < (q1 : Int) := by omega
    clear hq
    go_wp2
    refine bodyPost_ret (v := .tuple #[.slice a1 q1 c1, .string t]) (by simp [results, Try.results21, go_sem]; try rfl) rfl ?_
    exact ⟨a1, q1, c1, ks, t, rfl, h2, HK.out, by omega, Q1.out.mono (by omega), G3.out.below (Nat.le_refl _) (Nat.le_refl _)⟩
  · have hq1 : (1 : Int) < (q1 : Int) := by omega
    obtain ⟨gg, hgg, hgb⟩ := own_some Q1.out (by omega)
    subst hgg
    go_wp2_with fail
    refine (one_c w.heap.size ao n c 102 6 _ (by omega) (by omega) C3.out).mono ?_
    rintro e w4 ⟨z, rfl, hc1, hg1⟩
    have G4 : Hid (GB w.heap.size w w4) := G3.out.trans hg1
    have R1 : Hid (Own w4 (w.heap.size + 1) (.slice (some ⟨gg, 0, none⟩) q1 c1) ks) := Q1.out.kept hg1 (sep_own Q1.out (by omega))
    clear hc1 hg1 C3 G3 Q1
    cases z
    · go_wp2
      refine bodyPost_ret (v := .tuple #[.slice (some ⟨gg, 0, none⟩) q1 c1, .string t]) (by simp [results, Try.results21, go_sem]; try rfl) rfl ?_
      exact ⟨_, q1, c1, ks, t, rfl, h2, HK.out, by omega, R1.out.mono (by omega), G4.out.below (Nat.le_refl _) (Nat.le_refl _)⟩
    · have gc : w4.cell? ⟨gg, 1, none⟩ = some (.int .i64 (ks.getD 1 0)) := by
        have h := R1.out
        rw [← HK.out] at h
        exact h.cell 1 (by rw [HK.out]; omega)
      have gf : w4.frozen? ⟨gg, 1, none⟩ = false := by
        have h := R1.out
        rw [← HK.out] at h
        exact h.free 1
      generalize ks.getD 1 0 = y0 at gc
      obtain ⟨y1, hy1⟩ : ∃ y1, wrap64 (y0 + 1) = y1 := ⟨_, rfl⟩
      have hgr : w4.grownBy (w4.setCell ⟨gg, 1, none⟩ (.int .i64 y1)) (some gg) := (GB.refl gg w4).setCell _ _
      have R2 : Hid (Own (w4.setCell ⟨gg, 1, none⟩ (.int .i64 y1)) (w.heap.size + 1) (.slice (some ⟨gg, 0, none⟩) q1 c1) (ks.set 1 y1)) := own_set R1.out 1 y1
      have G5 : Hid (GB w.heap.size w (w4.setCell ⟨gg, 1, none⟩ (.int .i64 y1))) := G4.out.grown hgr (fun k hk => by simp at hk; omega)
      clear hgr R1 G4
      go_wp2
      refine bodyPost_ret (v := .tuple #[.slice (some ⟨gg, 0, none⟩) q1 c1, .string t]) (by simp [results, Try.results21, go_sem]; try rfl) rfl ?_
      exact ⟨_, q1, c1, ks.set 1 y1, t, rfl, h2, by rw [List.length_set]; exact HK.out, by omega, R2.out.mono (by omega), G5.out.below (Nat.le_refl _) (Nat.le_refl _)⟩

end Go.Proofs.Ytnfoflijapbkdaa
