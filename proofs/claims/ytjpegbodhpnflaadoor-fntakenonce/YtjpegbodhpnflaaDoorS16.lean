/- Chapter 16: SeenIn and LowestOf of the program. -/
import Derived.Test.YtjpegbodhpnflaaDoorG16
namespace Go.Proofs.YtjpegbodhpnflaaDoor
set_option linter.unusedVariables false
set_option maxRecDepth 1000000
set_option linter.unusedSimpArgs false
open Go.RowKit

def seenV (t x : Int) : List Int := if goodWn t x = true then RL 16 x.toNat t else []
def lowV (t x : Int) : Int := if goodWn t x = true then (if t < 16 then 1 else t - 15) else 0
theorem seenV_len (t x : Int) : (seenV t x).length ≤ 16 := by
  unfold seenV
  split
  · exact RL_len _ _ _
  · simp

theorem goodWn_of {t x : Int} (h : goodWn t x = true) : 0 ≤ x ∧ GoodW t x.toNat := by
  unfold goodWn at h
  exact of_decide_eq_true h
theorem goodWn_at {t : Int} {b : Nat} (h : GoodW t b) : goodWn t (b : Int) = true := by
  unfold goodWn
  rw [Int.toNat_natCast]
  exact decide_eq_true ⟨by omega, h⟩

theorem box2 (w : World) (x y : Value) (t : TypeId) {w' : World} (hb : Below (w.alloc (.cells #[x, y] t)).heap.size (w.alloc (.cells #[x, y] t)) w') : w'.cell? ⟨w.heap.size, 0, none⟩ = some x ∧ w'.cell? ⟨w.heap.size, 1, none⟩ = some y := by
  have h := cell2 (g := w.heap.size) hb (by simp) (heap_alloc_new w _)
  exact ⟨h.1, h.2.1⟩

set_option maxHeartbeats 1000000 in
theorem implSeen_c (t x : Int) (w : World) (ht : Tb w) (hx64 : -9223372036854775808 ≤ x ∧ x ≤ 9223372036854775807) :
    Calls Tryd.prog 25 #[.agg #[.int .i64 t, .int .i64 x]] w fun e w' => ∃ ao c, e = .returned (.tuple #[.slice ao (seenV t x).length c, .bool (goodWn t x)]) ∧ Own w' w.heap.size (.slice ao (seenV t x).length c) (seenV t x) ∧ (ao = none → c = 0) ∧ Below w.heap.size w w' := by
  have q := goodWindow_c t x (w.alloc (.cells #[.int .i64 t, .int .i64 x] 26)) (ht.later (balloc w _)) hx64
  have HB0 : Hid (Below w.heap.size w (w.alloc (.cells #[.int .i64 t, .int .i64 x] 26))) := balloc w _
  unfold seenV
  cases hg : goodWn t x
  · rw [hg] at q
    rw [if_neg (by decide)]
    go_enter Tryd.func25, Tryd.ntmps25
    go_wp2_with fail
    refine q.mono ?_
    clear q
    rintro e w1 ⟨rfl, hb1⟩
    have HB1 : Hid (Below w.heap.size w w1) := HB0.out.trans (hb1.mono (by simp))
    clear hb1 HB0
    go_wp2
    refine bodyPost_ret (v := .tuple #[.slice none 0 0, .bool false]) (by simp [results, Tryd.results25, go_sem]; try rfl) rfl ?_
    exact ⟨none, 0, rfl, World.ownsRow_nil _ _ _ _, fun _ => rfl, HB1.out⟩
  · rw [hg] at q
    rw [if_pos rfl]
    have hG := goodWn_of hg
    obtain ⟨b, rfl⟩ : ∃ b : Nat, x = b := ⟨x.toNat, by omega⟩
    rw [Int.toNat_natCast] at hG ⊢
    have HN : Hid (∀ wx, Below w.heap.size w wx → Calls Tryd.prog 45 #[.agg #[.int .i64 t, .int .i64 b]] wx fun e w' => ∃ ao c, e = .returned (.slice ao (RL 16 b t).length c) ∧ Own w' wx.heap.size (.slice ao (RL 16 b t).length c) (RL 16 b t) ∧ Below wx.heap.size wx w') := fun wx h => by
      have h2 := numbersSeen_c t b wx hG.2.2.2.1 (ht.later h)
      rw [seen_good hG.2] at h2
      exact h2
    clear hG hg ht
    generalize RL 16 b t = xs at HN ⊢
    go_enter Tryd.func25, Tryd.ntmps25
    go_wp2_with fail
    refine q.mono ?_
    clear q
    rintro e w1 ⟨rfl, hb1⟩
    have HB1 : Hid (Below w.heap.size w w1) := HB0.out.trans (hb1.mono (by simp))
    obtain ⟨c0, c1⟩ := box2 w _ _ _ hb1
    clear hb1 HB0
    go_wp2_with fail
    refine (HN.out _ HB1.out).mono ?_
    clear HN
    rintro e w2 ⟨ao, c, rfl, hO, hb2⟩
    have HO : Hid (Own w2 w.heap.size (.slice ao xs.length c) xs) := hO.mono HB1.out.size
    have HB2 : Hid (Below w.heap.size w w2) := HB1.out.trans (hb2.mono HB1.out.size)
    clear hb2 hO
    go_wp2
    refine bodyPost_ret (v := .tuple #[.slice ao xs.length c, .bool true]) (by simp [results, Tryd.results25, go_sem]; try rfl) rfl ?_
    refine ⟨ao, c, rfl, HO.out, fun e => ?_, HB2.out⟩
    rcases HO.out.form with ⟨h, _⟩ | ⟨g, cap, h, _⟩
    · injection h
    · rw [e] at h; cases h

set_option maxHeartbeats 1000000 in
theorem implLow_c (t x : Int) (w : World) (ht : Tb w) (hx64 : -9223372036854775808 ≤ x ∧ x ≤ 9223372036854775807) :
    Calls Tryd.prog 26 #[.agg #[.int .i64 t, .int .i64 x]] w fun e w' => e = .returned (.tuple #[.int .i64 (lowV t x), .bool (goodWn t x)]) ∧ Below w.heap.size w w' := by
  have q := goodWindow_c t x (w.alloc (.cells #[.int .i64 t, .int .i64 x] 26)) (ht.later (balloc w _)) hx64
  have HB0 : Hid (Below w.heap.size w (w.alloc (.cells #[.int .i64 t, .int .i64 x] 26))) := balloc w _
  unfold lowV
  cases hg : goodWn t x
  · rw [hg] at q
    rw [if_neg (by decide)]
    go_enter Tryd.func26, Tryd.ntmps26
    go_wp2_with fail
    refine q.mono ?_
    clear q
    rintro e w1 ⟨rfl, hb1⟩
    have HB1 : Hid (Below w.heap.size w w1) := HB0.out.trans (hb1.mono (by simp))
    clear hb1 HB0
    go_wp2
    refine bodyPost_ret (v := .tuple #[.int .i64 0, .bool false]) (by simp [results, Tryd.results26, go_sem]; try rfl) rfl ?_
    exact ⟨rfl, HB1.out⟩
  · rw [hg] at q
    rw [if_pos rfl]
    have hG := goodWn_of hg
    have h0 := hG.2.1
    have h1 := hG.2.2.1
    obtain ⟨R, hR⟩ : ∃ R, (if t < 16 then (1 : Int) else t - 15) = R := ⟨_, rfl⟩
    have HM : Hid (max 1 (t - 16 + 1) = R) := by
      show _ = _
      rw [← hR]
      split <;> omega
    rw [hR]
    clear hR
    clear hG hg ht
    go_enter Tryd.func26, Tryd.ntmps26
    go_wp2_with fail
    refine q.mono ?_
    clear q
    rintro e w1 ⟨rfl, hb1⟩
    have HB1 : Hid (Below w.heap.size w w1) := HB0.out.trans (hb1.mono (by simp))
    obtain ⟨c0, c1⟩ := box2 w _ _ _ hb1
    clear hb1 HB0
    go_wp2
    refine bodyPost_ret (v := .tuple #[.int .i64 (max 1 (t - 16 + 1)), .bool true]) (by simp [results, Tryd.results26, go_sem]; try rfl) rfl ?_
    exact ⟨by rw [HM.out], HB1.out⟩

end Go.Proofs.YtjpegbodhpnflaaDoor
