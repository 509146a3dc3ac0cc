/- Chapter 16: GoodWindow, SeenIn, LowestOf of the program. -/
import Derived.Test.YtjpegbodhpnflaaDoorW16
import Derived.Deep.RegionLaw
namespace Go.Proofs.YtjpegbodhpnflaaDoor
set_option linter.unusedVariables false
set_option maxRecDepth 1000000
set_option linter.unusedSimpArgs false
open Go.RowKit

instance (t : Int) (b : Nat) : Decidable (GoodW t b) := by unfold GoodW; infer_instance
def goodWn (t x : Int) : Bool := decide (0 ≤ x ∧ GoodW t x.toNat)

theorem wr64_id {x : Int} (h : -9223372036854775808 ≤ x ∧ x ≤ 9223372036854775807) : wr64 x = x := by
  unfold wr64; rw [IntKind.wrap_i64]; omega
theorem map_wr {l : List Int} (h : ∀ x ∈ l, -9223372036854775808 ≤ x ∧ x ≤ 9223372036854775807) : l.map wr64 = l := by
  conv => rhs; rw [← List.map_id l]
  exact List.map_congr_left fun x hx => wr64_id (h x hx)
theorem seen_good {t : Int} {b : Nat} (h : GoodW t b) : (RL 16 b t).map wr64 = RL 16 b t := map_wr fun x hx => by
  have := goodW_pos h hx
  have := h.2.1
  omega
theorem bit_of_ne : ∀ {b : Nat}, b < 65536 → b ≠ 0 → ∃ k, k < 16 ∧ b.testBit k = true := by
  intro b hb h0
  obtain ⟨k, hk⟩ := Nat.exists_testBit_of_ne_zero h0
  exact ⟨k, bit_lt hb hk, hk⟩

theorem good_iff (t : Int) (b : Nat) (hb : b < 65536) : ((decide (((RL 16 b t).map wr64).length ≤ 16) && ((RL 16 b t).map wr64).all playB) && decide (topL ((RL 16 b t).map wr64) = t)) = decide (GoodW t b) := by
  have hlen : ((RL 16 b t).map wr64).length ≤ 16 := by rw [List.length_map]; exact RL_len 16 b t
  rw [decide_eq_true hlen, Bool.true_and]
  by_cases hg : GoodW t b
  · rw [decide_eq_true hg, seen_good hg, goodW_top hg]
    simp only [decide_true, Bool.and_true, List.all_eq_true]
    intro x hx
    have := goodW_pos hg hx
    have := hg.2.1
    simp only [playB, decide_eq_true_eq]
    omega
  · rw [decide_eq_false hg]
    rw [Bool.and_eq_false_iff]
    by_cases hall : ((RL 16 b t).map wr64).all playB = true
    · right
      rw [decide_eq_false_iff_not]
      intro htop
      apply hg
      rw [List.all_eq_true] at hall
      by_cases h0 : b = 0
      · subst h0
        rw [RL_zero] at htop
        have : t = 0 := htop.symm
        subst this
        refine ⟨by omega, by omega, by omega, by simp, fun k _ h => by simp at h⟩
      · obtain ⟨k, hk, hkb⟩ := bit_of_ne hb h0
        have hne : (RL 16 b t).map wr64 ≠ [] := fun e => by
          have : t - (k : Int) ∈ RL 16 b t := (RL_mem _ _ _ _).2 ⟨k, hk, hkb, rfl⟩
          rw [List.map_eq_nil_iff.1 e] at this
          cases this
        have htm := topL_mem hne
        rw [htop] at htm
        have h1 := hall _ htm
        simp only [playB, decide_eq_true_eq] at h1
        have hid : (RL 16 b t).map wr64 = RL 16 b t := map_wr fun x hx => by have := RL_le hx; omega
        rw [hid] at hall htm
        obtain ⟨k0, hk0, hkb0, e0⟩ := (RL_mem _ _ _ _).1 htm
        obtain rfl : k0 = 0 := by omega
        rw [Nat.testBit_zero] at hkb0
        simp only [decide_eq_true_eq] at hkb0
        refine ⟨by omega, h1.2, hb, ⟨fun _ => by omega, fun _ => hkb0⟩, fun j hj hjb => ?_⟩
        have := hall _ ((RL_mem _ _ _ _).2 ⟨j, hj, hjb, rfl⟩)
        simp only [playB, decide_eq_true_eq] at this
        exact this.1
    · left
      simpa using hall

theorem rd_heap {w w' : World} {ao : Option Addr} {xs : List Int} (h : w'.heap = w.heap) (hr : Rd w ao xs) : Rd w' ao xs := by
  rcases hr with hr | ⟨b, off, he, hc⟩
  · exact Or.inl hr
  · refine Or.inr ⟨b, off, he, fun j hj => ?_⟩
    have := hc j hj
    unfold World.cell? at this ⊢
    rw [h]
    exact this

set_option maxHeartbeats 1000000 in
theorem goodWindow_c (t x : Int) (w : World) (ht : Tb w) (hx64 : -9223372036854775808 ≤ x ∧ x ≤ 9223372036854775807) :
    Calls Tryd.prog 17 #[.agg #[.int .i64 t, .int .i64 x]] w fun e w' => e = .returned (.bool (goodWn t x)) ∧ Below w.heap.size w w' := by
  by_cases hx0 : x < 0
  · rw [show goodWn t x = false from decide_eq_false (fun h => by omega)]
    have HB : Hid (Below w.heap.size w (w.alloc (.cells #[.int .i64 t, .int .i64 x] 26))) := balloc w _
    go_enter Tryd.func17, Tryd.ntmps17
    go_wp2
    go_ret
    exact ⟨rfl, HB.out⟩
  by_cases hx1 : 65535 < x
  · rw [show goodWn t x = false from decide_eq_false (fun h => by have := h.2.2.2.1; omega)]
    have HB : Hid (Below w.heap.size w (w.alloc (.cells #[.int .i64 t, .int .i64 x] 26))) := balloc w _
    go_enter Tryd.func17, Tryd.ntmps17
    go_wp2
    go_ret
    exact ⟨rfl, HB.out⟩
  obtain ⟨b, rfl⟩ : ∃ b : Nat, x = b := ⟨x.toNat, by omega⟩
  have hb : b < 65536 := by omega
  rw [show goodWn t (b : Int) = decide (GoodW t b) from by unfold goodWn; rw [Int.toNat_natCast]; exact decide_eq_decide.2 ⟨fun h => h.2, fun h => ⟨by omega, h⟩⟩, ← good_iff t b hb]
  have q := fun wx (h : Below w.heap.size w wx) => numbersSeen_c t b wx hb (ht.later h)
  have hl : ((RL 16 b t).map wr64).length = (RL 16 b t).length := by simp
  have hl16 := RL_len 16 b t
  rw [← hl] at q hl16
  generalize (RL 16 b t).map wr64 = xs at q hl16 ⊢
  clear hl hx64
  go_enter Tryd.func17, Tryd.ntmps17
  go_wp2_with fail
  refine (q _ (balloc w _)).mono ?_
  clear q
  rintro e w1 ⟨ao, c, rfl, hO, hb1⟩
  have HB1 : Hid (Below w.heap.size w w1) := (balloc w _).trans (hb1.mono (by simp))
  have c0 : w1.cell? ⟨w.heap.size, 0, none⟩ = some (.int .i64 t) := by rw [hb1.cell (p := ⟨w.heap.size, 0, none⟩) (by simp)]; simp
  have hRd := (hO.rd').2
  have c1 : Hid (∀ wx, wx.heap = w1.heap → Calls Tryd.prog 38 #[.slice ao xs.length c, .int .i64 16, .func (.func 39) #[] #[]] wx fun e w' => e = .returned (.bool (decide (xs.length ≤ 16) && xs.all playB)) ∧ w' = wx) := fun wx h => fewP_c 16 (by omega) ao _ c xs wx rfl (by omega) (rd_heap h hRd)
  have c2 : Hid (∀ wx, wx.heap = w1.heap → Calls Tryd.prog 46 #[.slice ao xs.length c] wx fun e w' => e = .returned (.int .i64 (topL xs)) ∧ w' = wx) := fun wx h => greatest_c ao _ c xs wx rfl (by omega) (rd_heap h hRd)
  clear hb1 hO hRd ht
  obtain ⟨zb, hz⟩ : ∃ zb, (decide (xs.length ≤ 16) && xs.all playB) = zb := ⟨_, rfl⟩
  obtain ⟨T, hT⟩ : ∃ T, topL xs = T := ⟨_, rfl⟩
  rw [hz] at c1
  rw [hT] at c2
  have HZ : Hid ((decide (xs.length ≤ 16) && xs.all playB) = zb) := hz
  have HT : Hid (topL xs = T) := hT
  clear hz hT
  cases zb
  · go_wp2
    go_quiet (first | (go_at_call 38; with_reducible exact Calls.quiet_of_same (c1.out _ rfl)) | (go_at_call 46; with_reducible exact Calls.quiet_of_same (c2.out _ rfl)))
    go_wp2
    go_ret
    exact ⟨by rw [HZ.out]; rfl, by first | exact below_drewN HB1.out _ | exact HB1.out⟩
  · go_wp2
    go_quiet (first | (go_at_call 38; with_reducible exact Calls.quiet_of_same (c1.out _ rfl)) | (go_at_call 46; with_reducible exact Calls.quiet_of_same (c2.out _ rfl)))
    go_wp2
    go_ret
    exact ⟨by rw [HZ.out, HT.out]; rfl, by first | exact below_drewN HB1.out _ | exact HB1.out⟩

end Go.Proofs.YtjpegbodhpnflaaDoor
