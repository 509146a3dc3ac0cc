/- The program's ShortestTaps; the specification's l1Has, l1Put and l3Turn. -/
import Derived.Test.YtjdfpjeeipbghaaMI3
namespace Go.Proofs.Ytjdfpjeeipbghaa
set_option linter.unusedVariables false
set_option linter.unusedSimpArgs false
open Go.RowKit

theorem shortF_short {ys : List Bool} {zs : List Int} {L : Int} {fb : Bool} (h : shortF ys = (zs, L, fb)) : zs.length ≤ 40 := by
  unfold shortF at h
  split at h
  · split at h
    · simp only [Prod.mk.injEq] at h
      rw [← h.1]; exact (massey_ok ys ys.length).lc
    · simp only [Prod.mk.injEq] at h
      rw [← h.1]; simp
  · simp only [Prod.mk.injEq] at h
    rw [← h.1]; simp

set_option maxHeartbeats 1000000 in
theorem implShort_c (ao : Option Addr) (n c : Nat) (ys : List Bool) (w : World) (hx : ys.length = n) (hn : n ≤ 17592186044416) (hr : RdB w ao ys) (zs : List Int) (L : Int) (fb : Bool) (p : Nat) (hF : shortF ys = (zs, L, fb)) (hp : zs.length = p) :
    Calls Try.prog 15 #[.slice ao n c] w fun e w' => ∃ a' c', e = .returned (.tuple #[.slice a' p c', .int .i64 L, .bool fb]) ∧ Own w' w.heap.size (.slice a' p c') zs ∧ Below w.heap.size w w' := by
  unfold shortF at hF
  rw [hx] at hF
  by_cases h : n ≤ 40
  · rw [if_pos h] at hF
    obtain ⟨q, hq⟩ : ∃ q, (massey ys n).C.length = q := ⟨_, rfl⟩
    have hql : q ≤ 40 := by rw [← hq]; exact (massey_ok ys n).lc
    obtain ⟨L0, hL0⟩ : ∃ L0 : Int, ((massey ys n).L : Int) = L0 := ⟨_, rfl⟩
    have HQ : Hid (Calls Try.prog 53 #[.slice ao n c] w fun e w' => ∃ a' c', e = .returned (.tuple #[.slice a' q c', .int .i64 L0]) ∧ Own w' w.heap.size (.slice a' q c') (massey ys n).C ∧ Below w.heap.size w w') := massey_c ao n c q ys w hx h hr hq L0 hL0
    rw [hL0] at hF
    have h40 : (n : Int) ≤ 40 := by omega
    generalize (massey ys n).C = C at HQ hF hq
    have HC : Hid (C.length = q) := hq
    clear hr hx hL0 h
    cases hg : goodT 0 C
    · rw [hg, if_neg (by simp)] at hF
      simp only [Prod.mk.injEq] at hF
      obtain ⟨rfl, rfl, rfl⟩ := hF
      simp at hp
      subst hp
      have HG : Hid (goodT 0 C = false) := hg
      clear hg hq
      go_enter Try.func15, Try.ntmps15
      go_wp2_with (first | (go_at_call 53; refine HQ.out.mono ?_; rintro e w1 ⟨a1, c1, rfl, ho, hb⟩; have HO : Hid (Own w1 w.heap.size (.slice a1 q c1) C) := ho; have HB : Hid (Below w.heap.size w w1) := hb; clear ho hb HQ) | (go_at_call 22; have hgc := implGoodT_c a1 q c1 C w1 HC.out (by omega) HO.out.rd'.2; rw [HG.out] at hgc; refine hgc.mono ?_; clear hgc; rintro e w' ⟨rfl, hw⟩; subst w'))
      refine bodyPost_ret (v := .tuple #[.slice none 0 0, .int .i64 0, .bool false]) (by simp [results, Try.results15, go_sem]) rfl ⟨none, 0, rfl, World.ownsRow_nil _ _ _ _, HB.out⟩
    · rw [hg, if_pos rfl] at hF
      simp only [Prod.mk.injEq] at hF
      obtain ⟨rfl, rfl, rfl⟩ := hF
      obtain rfl : q = p := by omega
      have HG : Hid (goodT 0 C = true) := hg
      clear hg hq hp
      go_enter Try.func15, Try.ntmps15
      go_wp2_with (first | (go_at_call 53; refine HQ.out.mono ?_; rintro e w1 ⟨a1, c1, rfl, ho, hb⟩; have HO : Hid (Own w1 w.heap.size (.slice a1 q c1) C) := ho; have HB : Hid (Below w.heap.size w w1) := hb; clear ho hb HQ) | (go_at_call 22; have hgc := implGoodT_c a1 q c1 C w1 HC.out (by omega) HO.out.rd'.2; rw [HG.out] at hgc; refine hgc.mono ?_; clear hgc; rintro e w' ⟨rfl, hw⟩; subst w'))
      refine bodyPost_ret (v := .tuple #[.slice a1 q c1, .int .i64 L0, .bool true]) (by simp [results, Try.results15, go_sem]) rfl ⟨a1, c1, rfl, HO.out, HB.out⟩
  · rw [if_neg h] at hF
    simp only [Prod.mk.injEq] at hF
    obtain ⟨rfl, rfl, rfl⟩ := hF
    simp at hp
    subst hp
    have h40 : (40 : Int) < (n : Int) := by omega
    clear hr hx h
    go_enter Try.func15, Try.ntmps15
    go_wp2
    refine bodyPost_ret (v := .tuple #[.slice none 0 0, .int .i64 0, .bool false]) (by simp [results, Try.results15, go_sem]) rfl ⟨none, 0, rfl, World.ownsRow_nil _ _ _ _, Below.refl _ _⟩

set_option maxHeartbeats 1000000 in
theorem l1Has_c (ao : Option Addr) (n c : Nat) (t : Int) (xs : List Int) (w : World) (hx : xs.length = n) (hn : n ≤ 17592186044416) (hr : Rd w ao xs) :
    Calls Try.prog 71 #[.slice ao n c, .int .i64 t] w fun e w' => e = .returned (.bool (decide (t ∈ xs))) ∧ w' = w := by
  have HX : Hid (xs.length = n) := hx
  have HR : Hid (Rd w ao xs) := hr
  obtain ⟨G, hG⟩ : ∃ G, G = decide (t ∈ xs) := ⟨_, rfl⟩
  rw [← hG]
  have HG : Hid (G = decide (t ∈ xs)) := hG
  clear hx hr hG
  go_enter Try.func71, Try.ntmps71
  go_wp2
  go_loop [9] (fun i => ∃ k : Nat, k ≤ n ∧ i = .int .i64 k ∧ Hid (∀ j, j < k → xs.getD j 0 ≠ t)) (fun i => n - (intOf i).toNat)
  case atStart => exact ⟨0, Nat.zero_le _, rfl, fun j h => absurd h (by omega)⟩
  case round =>
    obtain ⟨k, hk, rfl, hall⟩ := hrel
    by_cases hlt : k < n
    · obtain ⟨b, o, hao, hc⟩ := HR.out.at HX.out (by omega)
      have g1 := hc k hlt
      subst hao
      have k0 : (0 : Int) ≤ (k : Int) := by omega
      have k1 : (k : Int) < (n : Int) := by omega
      by_cases he : xs.getD k 0 = t
      · have hG : G = true := by rw [HG.out]; exact decide_eq_true (by rw [← he]; exact mem_getD (by rw [HX.out]; exact hlt))
        rw [he] at g1
        subst hG
        clear he hall hc
        go_wp2
        go_ret
        exact ⟨rfl, rfl⟩
      · have HN : Hid (∀ j, j < k + 1 → xs.getD j 0 ≠ t) := fun j hj => by
          by_cases e : j = k
          · subst e; exact he
          · exact hall.out j (by omega)
        generalize xs.getD k 0 = y at g1 he
        have hb : (y == t) = false := by rw [beq_eq_false_iff_ne]; exact he
        clear hall he hc
        go_wp2
        go_round
        case rel => exact ⟨k + 1, by omega, by go_num, HN⟩
        case measure => simp [intOf]; omega
    · have hG : G = false := by
        rw [HG.out]
        exact decide_eq_false fun h => by
          obtain ⟨j, hj, e⟩ := Int_mem_getD h
          exact hall.out j (by rw [HX.out] at hj; omega) e
      subst hG
      clear hall
      go_wp2
      go_ret
      exact ⟨rfl, rfl⟩

theorem own_emptyI (w : World) (base : Nat) (hb : base ≤ w.heap.size) (cs : Array Value) (hc : cs = #[]) : (w.alloc (.cells cs 3)).ownsRow base 3 1 (.slice (some ⟨w.heap.size, 0, none⟩) 0 0) 0 [] := by
  subst hc
  have := World.ownsRow_lit (base := base) (e := 3) (size := 1) w #[] 0 hb (by unfold maxLen; omega) (by simp)
  simpa using this

theorem cells_takeI {w : World} {base g n cap m : Nat} {l : List Int} (h : Own w base (.slice (some ⟨g, 0, none⟩) n cap) l) (hl : l.length = n) (hm : m ≤ n) : ∀ j u, (cellsI (l.take m))[j]? = some u → w.cell? ((⟨g, 0, none⟩ : Addr).add j) = some u := by
  intro j u hu
  have hj : j < (l.take m).length := by
    have := (List.getElem?_eq_some_iff.1 hu).1
    simpa [cellsI] using this
  rw [List.length_take] at hj
  rw [getD_map_int _ j (by rw [List.length_take]; exact hj)] at hu
  have hc := Own.cell (g := g) (cap := cap) (xs := l) (by rw [hl]; exact h) j (by omega)
  rw [Go.WideShapes.add_plain, Nat.zero_add, hc, ← hu]
  simp [List.getD, List.getElem?_take, show j < m by omega]

theorem cells_dropI {w : World} {base g n cap m : Nat} {l : List Int} (h : Own w base (.slice (some ⟨g, 0, none⟩) n cap) l) (hl : l.length = n) : ∀ j u, (cellsI (l.drop m))[j]? = some u → w.cell? ((⟨g, m, none⟩ : Addr).add j) = some u := by
  intro j u hu
  have hj : j < (l.drop m).length := by
    have := (List.getElem?_eq_some_iff.1 hu).1
    simpa [cellsI] using this
  rw [getD_map_int _ j hj] at hu
  rw [List.length_drop] at hj
  have hc := Own.cell (g := g) (cap := cap) (xs := l) (by rw [hl]; exact h) (m + j) (by omega)
  rw [Go.WideShapes.add_plain, hc, ← hu]
  simp [List.getD, List.getElem?_drop]

theorem Own.capLe {w : World} {base g r cap : Nat} {l : List Int} (h : Own w base (.slice (some ⟨g, 0, none⟩) r cap) l) : r ≤ cap ∧ cap ≤ maxLen := by
  have hr := h.rd'.1
  rcases h.form with ⟨h, _⟩ | ⟨g', cap', h, _, _, h1, h2⟩
  · simp at h
  · simp only [Value.slice.injEq] at h
    obtain ⟨_, hq1, rfl⟩ := h
    exact ⟨by omega, h2⟩

end Go.Proofs.Ytjdfpjeeipbghaa
