/- PeriodOf: what it is to answer, and the program's contract. -/
import Derived.Test.YtjdfpjeeipbghaaST3
import Derived.Test.YtjdfpjeeipbghaaCT3
import Derived.Deep.LoopGhost
namespace Go.Proofs.Ytjdfpjeeipbghaa
set_option linter.unusedVariables false
set_option linter.unusedSimpArgs false
open Go.RowKit

/-- The first bits come again at place p. -/
def again (S fs : List Bool) (p : Nat) : Prop := ∀ i, i < fs.length → S.getD (p + i) false = fs.getD i false
instance (S fs : List Bool) (p : Nat) : Decidable (again S fs p) := by unfold again; exact inferInstance

def perFrom (S fs : List Bool) : Nat → Nat → Int × Bool
  | 0, _ => (0, false)
  | f + 1, p => if again S fs p then ((p : Int), true) else perFrom S fs f (p + 1)

def perF (xs : List Int) (fs : List Bool) : Int × Bool := if okS xs fs = true ∧ true ∈ fs then perFrom (streamL xs fs (5000 + fs.length)) fs 5000 1 else (0, false)

set_option maxHeartbeats 4000000 in
set_option maxRecDepth 1000000 in
theorem implPeriod_yes (ao : Option Addr) (n c b' o' m d : Nat) (xs : List Int) (fs : List Bool) (w : World) (hx : xs.length = n) (hy : fs.length = m) (hn : n ≤ 17592186044416) (hr : Rd w ao xs) (hs : RdB w (some ⟨b', o', none⟩) fs)
    (hcy : ∀ j, j < m → w.cell? ⟨b', o' + j, none⟩ = some (.bool (fs.getD j false))) (hk : okS xs fs = true) (ht : true ∈ fs) (R : Int) (fb : Bool) (hR : (R, fb) = perFrom (streamL xs fs (5000 + m)) fs 5000 1) :
    Calls Try.prog 28 #[.slice ao n c, .slice (some ⟨b', o', none⟩) m d] w fun e w' => e = .returned (.tuple #[.int .i64 R, .bool fb]) ∧ Below w.heap.size w w' := by
  have hm := (okS_taps hk).1
  rw [hy] at hm
  have HK : Hid (Calls Try.prog 64 #[.slice ao n c, .slice (some ⟨b', o', none⟩) m d] w fun e w' => e = .returned (.bool true) ∧ w' = w) := by
    have h := isStart_c ao (some ⟨b', o', none⟩) n c m d xs fs w hx hy hn (by omega) hr
    rw [hk] at h
    exact h
  have HT : Hid (Calls Try.prog 66 #[.slice (some ⟨b', o', none⟩) m d, .bool true] w fun e w' => e = .returned (.bool true) ∧ w' = w) := by
    have h := containsBool_c (some ⟨b', o', none⟩) m d fs true w hy (by omega) hs
    rw [decide_eq_true ht] at h
    exact h
  have HS : Hid (Calls Try.prog 65 #[.slice ao n c, .slice (some ⟨b', o', none⟩) m d, .int .i64 (5000 + (m : Int))] w fun e w' => ∃ a' c', e = .returned (.slice a' (5000 + m) c') ∧ OwnB w' w.heap.size (.slice a' (5000 + m) c') (streamL xs fs (5000 + m)) ∧ Below w.heap.size w w') := by
    have h := streamFrom_c ao (some ⟨b', o', none⟩) n c m d (5000 + m) xs fs w hx hy hn (by omega) hr hs (by omega) (by have h := (okS_taps hk).2.2; rw [hy] at h; exact h)
    rw [show ((5000 + m : Nat) : Int) = 5000 + (m : Int) by omega] at h
    exact h
  have HY : Hid (fs.length = m) := hy
  have HCY : Hid (∀ j, j < m → w.cell? ⟨b', o' + j, none⟩ = some (.bool (fs.getD j false))) := hcy
  have HSL : Hid ((streamL xs fs (5000 + m)).length = 5000 + m) := streamL_length _ _ _
  obtain ⟨S, hS⟩ : ∃ S, S = streamL xs fs (5000 + m) := ⟨_, rfl⟩
  obtain ⟨N, hN⟩ : ∃ N, N = 5000 + m := ⟨_, rfl⟩
  rw [← hS] at HS HSL hR
  rw [← hN] at HS HSL
  have HR : Hid ((R, fb) = perFrom S fs 5000 1) := hR
  have hm12 : (m : Int) ≤ 12 := by omega
  clear hx hy hr hs hcy hk ht hS hR
  go_enter Try.func28, Try.ntmps28
  go_wp2
  go_step3
  go_wp2_with (first | (go_at_call 64; refine HK.out.mono ?_; rintro e w' ⟨rfl, hw⟩; subst w') | (go_at_call 66; refine HT.out.mono ?_; rintro e w' ⟨rfl, hw⟩; subst w') | (go_at_call 65; refine HS.out.mono ?_; rintro e w1 ⟨a1, c1, rfl, ho, hb⟩; have HO : Hid (OwnB w1 w.heap.size (.slice a1 N c1) S) := ho; have HB : Hid (Below w.heap.size w w1) := hb; clear ho hb HS))
  go_step3
  go_wp2
  rcases HO.out.form with ⟨h, _⟩ | ⟨gS, cap, h, _⟩
  · simp at h; omega
  simp only [Value.slice.injEq] at h
  obtain ⟨rfl, _, _⟩ := h
  have HCS : Hid (∀ j, j < N → w1.cell? ⟨gS, j, none⟩ = some (.bool (S.getD j false))) := fun j hj => by
    have h := OwnB.cell (g := gS) (cap := c1) (xs := S) (by rw [HSL.out]; exact HO.out) j (by rw [HSL.out]; exact hj)
    exact h
  have HCF : Hid (∀ j, j < m → w1.cell? ⟨b', o' + j, none⟩ = some (.bool (fs.getD j false))) := fun j hj => by
    rw [HB.out.cell (p := ⟨b', o' + j, none⟩) (World.block_lt_of_cell? w _ (HCY.out j hj))]
    exact HCY.out j hj
  go_loopg [7] 5000 (fun g s7 wx => ∃ p : Nat, p + g = 5001 ∧ 1 ≤ p ∧ s7 = .int .i64 p ∧ Hid ((R, fb) = perFrom S fs g p) ∧ wx = w1)
  case atStart => exact ⟨1, rfl, Nat.le_refl _, rfl, HR, rfl⟩
  case round =>
    clear HR HK HT
    obtain ⟨p, hpg, hp1, rfl, hR, rfl⟩ := hrel
    cases gk with
    | zero =>
      have hp : ¬ (p : Int) ≤ 5000 := by omega
      have he := hR.out
      simp only [perFrom, Prod.mk.injEq] at he
      obtain ⟨rfl, rfl⟩ := he
      clear hR
      go_wp2
      try rw [Exit.noGoto_ret]
      refine bodyPost_ret (v := .tuple #[.int .i64 0, .bool false]) (by simp [results, Try.results28, go_sem]) rfl ⟨rfl, HB.out⟩
    | succ g =>
      have hp : (p : Int) ≤ 5000 := by omega
      have HP : Hid ((R, fb) = if again S fs p then ((p : Int), true) else perFrom S fs g (p + 1)) := hR.out
      clear hR
      go_wp2
      go_loopg [31] m (fun g2 s31 wy => ∃ j : Nat, j + g2 = m ∧ s31 = .int .i64 j ∧ Hid (∀ i, i < j → S.getD (p + i) false = fs.getD i false) ∧ wy = wr)
      case atStart => exact ⟨0, by omega, rfl, fun i h => absurd h (by omega), rfl⟩
      case round =>
        obtain ⟨j, hjg, rfl, hall, rfl⟩ := hrel
        cases gk with
        | zero =>
          have hj : ¬ (j : Int) < (m : Int) := by omega
          have he := HP.out
          rw [if_pos (show again S fs p from fun i hi => hall.out i (by rw [HY.out] at hi; omega))] at he
          simp only [Prod.mk.injEq] at he
          obtain ⟨rfl, rfl⟩ := he
          clear HP hall
          go_wp2
          try rw [Exit.noGoto_ret]
          refine bodyPost_ret (v := .tuple #[.int .i64 p, .bool true]) (by simp [results, Try.results28, go_sem]) rfl ⟨rfl, HB.out⟩
        | succ g2 =>
          have hj : (j : Int) < (m : Int) := by omega
          have g1 := HCF.out j (by omega)
          have g3 := HCS.out (p + j) (by omega)
          have j0 : (0 : Int) ≤ (j : Int) := by omega
          have q0 : (0 : Int) ≤ (p : Int) + (j : Int) := by omega
          have q1 : (p : Int) + (j : Int) < (N : Int) := by omega
          have q2 : ((p : Int) + (j : Int)).toNat = p + j := by omega
          by_cases hxy : S.getD (p + j) false = fs.getD j false
          · have HN : Hid (∀ i, i < j + 1 → S.getD (p + i) false = fs.getD i false) := fun i hi => by
              by_cases e : i = j
              · subst e; exact hxy
              · exact hall.out i (by omega)
            rw [hxy] at g3
            generalize fs.getD j false = x at g1 g3
            clear hall hxy
            cases x
            all_goals go_wp2
            all_goals go_roundg g2
            all_goals first | (case rel => exact ⟨j + 1, by omega, by go_num, HN, rfl⟩) | skip
            all_goals omega
          · have HN : Hid ((R, fb) = perFrom S fs g (p + 1)) := by
              have he := HP.out
              rw [if_neg (fun h => hxy (h j (by rw [HY.out]; omega)))] at he
              exact he
            generalize fs.getD j false = x at g1 hxy
            generalize S.getD (p + j) false = y at g3 hxy
            clear hall HP
            cases x <;> cases y <;> first | exact absurd rfl hxy | skip
            all_goals clear hxy
            all_goals go_wp2
            all_goals go_roundg g
            all_goals first | (case rel => exact ⟨p + 1, by omega, by omega, by go_num, HN, rfl⟩) | skip
            all_goals omega

theorem implPeriod_no (ao bo : Option Addr) (n c m d : Nat) (xs : List Int) (fs : List Bool) (w : World) (hx : xs.length = n) (hy : fs.length = m) (hn : n ≤ 17592186044416) (hm : m ≤ 17592186044416) (hr : Rd w ao xs) (hs : RdB w bo fs) (h : ¬ (okS xs fs = true ∧ true ∈ fs)) :
    Calls Try.prog 28 #[.slice ao n c, .slice bo m d] w fun e w' => e = .returned (.tuple #[.int .i64 0, .bool false]) ∧ w' = w := by
  have HK : Hid (Calls Try.prog 64 #[.slice ao n c, .slice bo m d] w fun e w' => e = .returned (.bool (okS xs fs)) ∧ w' = w) := isStart_c ao bo n c m d xs fs w hx hy hn hm hr
  have HT : Hid (Calls Try.prog 66 #[.slice bo m d, .bool true] w fun e w' => e = .returned (.bool (decide (true ∈ fs))) ∧ w' = w) := containsBool_c bo m d fs true w hy hm hs
  cases hk : okS xs fs
  · rw [hk] at HK
    clear hk h hr hs hx hy
    go_enter Try.func28, Try.ntmps28
    go_wp2
    go_step3
    go_wp2_with (first | (go_at_call 64; refine HK.out.mono ?_; rintro e w' ⟨rfl, hw⟩; subst w'))
    try rw [Exit.noGoto_ret]
    refine bodyPost_ret (v := .tuple #[.int .i64 0, .bool false]) (by simp [results, Try.results28, go_sem]) rfl ⟨rfl, rfl⟩
  · have ht : ¬ true ∈ fs := fun h2 => h ⟨hk, h2⟩
    rw [hk] at HK
    rw [decide_eq_false ht] at HT
    clear hk h hr hs hx hy ht
    go_enter Try.func28, Try.ntmps28
    go_wp2
    go_step3
    go_wp2_with (first | (go_at_call 64; refine HK.out.mono ?_; rintro e w' ⟨rfl, hw⟩; subst w') | (go_at_call 66; refine HT.out.mono ?_; rintro e w' ⟨rfl, hw⟩; subst w'))
    try rw [Exit.noGoto_ret]
    refine bodyPost_ret (v := .tuple #[.int .i64 0, .bool false]) (by simp [results, Try.results28, go_sem]) rfl ⟨rfl, rfl⟩

theorem implPeriod_c (ao : Option Addr) (n c : Nat) (bo : Option Addr) (m d : Nat) (xs : List Int) (fs : List Bool) (w : World) (hx : xs.length = n) (hy : fs.length = m) (hn : n ≤ 17592186044416) (hm : m ≤ 17592186044416) (hr : Rd w ao xs) (hs : RdB w bo fs) (R : Int) (fb : Bool) (hF : perF xs fs = (R, fb)) :
    Calls Try.prog 28 #[.slice ao n c, .slice bo m d] w fun e w' => e = .returned (.tuple #[.int .i64 R, .bool fb]) ∧ Below w.heap.size w w' := by
  unfold perF at hF
  by_cases h : okS xs fs = true ∧ true ∈ fs
  · rw [if_pos h, hy] at hF
    have hp : 0 < m := by rw [← hy]; exact List.length_pos_of_mem h.2
    obtain ⟨b', o', rfl, hcy⟩ := hs.at hy hp
    exact implPeriod_yes ao n c b' o' m d xs fs w hx hy hn hr hs hcy h.1 h.2 R fb hF.symm
  · rw [if_neg h] at hF
    simp only [Prod.mk.injEq] at hF
    obtain ⟨rfl, rfl⟩ := hF
    refine (implPeriod_no ao bo n c m d xs fs w hx hy hn hm hr hs h).mono ?_
    rintro e w' ⟨rfl, hw⟩
    subst w'
    exact ⟨rfl, Below.refl _ _⟩

end Go.Proofs.Ytjdfpjeeipbghaa
