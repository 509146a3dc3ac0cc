/- Chapter 7, the program: texts unlike, checks, bodies. -/
import Derived.Test.YtnfoflijapbkdaaJ7
namespace Go.Proofs.Ytnfoflijapbkdaa
set_option linter.unusedVariables false
set_option maxRecDepth 1000000
set_option linter.unusedSimpArgs false
open Go.RowKit

def xorF (a b : ByteArray) : ByteArray × Bool := if a.size = b.size ∧ a.size ≤ 40 then (tx (xorB (bl a) (bl b)), true) else (ByteArray.empty, false)
def chkF (s : ByteArray) : Int × Bool := if s.size ≤ 40 then ((chk (bl s) : Nat), true) else (0, false)
def padBF (s : ByteArray) : ByteArray × Bool := if s.size < 16 then (tx (padB (bl s)), true) else (ByteArray.empty, false)
def unpadF (s : ByteArray) : ByteArray × Bool := match unpadB (bl s) with
  | some b => (tx b, true)
  | none => (ByteArray.empty, false)

set_option maxHeartbeats 1000000 in
theorem implXor_c (a b : ByteArray) (w : World) (ha : a.size ≤ 17592186044416) (hb : b.size ≤ 17592186044416) (t : ByteArray) (fb : Bool) (hF : xorF a b = (t, fb)) :
    Calls Try.prog 30 #[.string a, .string b] w fun e w' => e = .returned (.tuple #[.string t, .bool fb]) ∧ Below w.heap.size w w' := by
  unfold xorF at hF
  by_cases h1 : a.size = b.size
  · have i1 : ((a.size : Int) != (b.size : Int)) = false := by rw [bne_eq_false_iff_eq]; omega
    by_cases h2 : a.size ≤ 40
    · rw [if_pos ⟨h1, h2⟩] at hF
      simp only [Prod.mk.injEq] at hF
      obtain ⟨rfl, rfl⟩ := hF
      have i2 : ¬ (40 : Int) < (a.size : Int) := by omega
      obtain ⟨c, W, hcv, hc, hrow, hbel, hsz⟩ := bytes_new a w
      have HT : Hid (∀ wx, wx = W → Calls Try.prog 67 #[.slice (some ⟨w.heap.size, 0, none⟩) a.size c, .string b] wx fun e w' => e = .returned (.tuple #[]) ∧ RowB w' w.heap.size (xorB (bl a) (bl b)) ∧ wx.grownBy w' (some w.heap.size)) := fun wx e => by
        subst e
        exact turnBy_c w.heap.size a.size c b (bl a) wx (bl_length a) h1.symm h2 hrow
      have HB : Hid (Below w.heap.size w W) := hbel
      have HL : Hid ((xorB (bl a) (bl b)).length = a.size) := by show _ = _; rw [xorB_length (by rw [bl_length, bl_length]; exact h1), bl_length]
      have HS : Hid (w.heap.size ≤ W.heap.size) := by show _ ≤ _; omega
      generalize xorB (bl a) (bl b) = z at HT HL ⊢
      clear hrow hbel hsz h1 h2
      go_enter Try.func30, Try.ntmps30
      go_wp2_with fail
      refine (HT.out _ rfl).mono ?_
      rintro e w' ⟨rfl, hr, hg⟩
      have hcv2 := hr.text a.size c HL.out
      have HB2 : Hid (Below w.heap.size w w') := HB.out.trans (below_grown hg (Nat.le_refl _) HS.out)
      clear HT HB HS hg hr hcv
      go_wp2
      refine bodyPost_ret (v := .tuple #[.string (tx z), .bool true]) (by simp [results, Try.results30, go_sem]; try rfl) rfl ?_
      exact ⟨rfl, HB2.out⟩
    · rw [if_neg (fun h => h2 h.2)] at hF
      simp only [Prod.mk.injEq] at hF
      obtain ⟨rfl, rfl⟩ := hF
      have i2 : (40 : Int) < (a.size : Int) := by omega
      clear h1
      go_enter Try.func30, Try.ntmps30
      go_wp2
      refine bodyPost_ret (v := .tuple #[.string ByteArray.empty, .bool false]) (by simp [results, Try.results30, go_sem]; try rfl) rfl ?_
      exact ⟨rfl, Below.refl _ _⟩
  · have i1 : ((a.size : Int) != (b.size : Int)) = true := by rw [bne_iff_ne]; omega
    rw [if_neg (fun h => h1 h.1)] at hF
    simp only [Prod.mk.injEq] at hF
    obtain ⟨rfl, rfl⟩ := hF
    go_enter Try.func30, Try.ntmps30
    go_wp2
    refine bodyPost_ret (v := .tuple #[.string ByteArray.empty, .bool false]) (by simp [results, Try.results30, go_sem]; try rfl) rfl ?_
    exact ⟨rfl, Below.refl _ _⟩

set_option maxHeartbeats 1000000 in
theorem implCheck_c (s : ByteArray) (w : World) (hs : s.size ≤ 17592186044416) (z : Int) (fb : Bool) (hF : chkF s = (z, fb)) :
    Calls Try.prog 36 #[.string s] w fun e w' => e = .returned (.tuple #[.int .i64 z, .bool fb]) ∧ Below w.heap.size w w' := by
  unfold chkF at hF
  by_cases h2 : s.size ≤ 40
  · rw [if_pos h2] at hF
    simp only [Prod.mk.injEq] at hF
    obtain ⟨rfl, rfl⟩ := hF
    have i2 : ¬ (40 : Int) < (s.size : Int) := by omega
    obtain ⟨c, W, hcv, hc, hrow, hbel, hsz⟩ := bytes_new s w
    have HT : Hid (∀ wx, wx = W → Calls Try.prog 59 #[.slice (some ⟨w.heap.size, 0, none⟩) s.size c] wx fun e w' => e = .returned (.int .i64 (chk (bl s) : Nat)) ∧ w' = wx) := fun wx e => by
      subst e
      exact checkSum_c w.heap.size 0 s.size c (bl s) wx (bl_length s) h2 (hrow.cellsAt (o := 0) (by rw [List.drop_zero, List.take_of_length_le (by rw [bl_length]; exact Nat.le_refl _)]) (by rw [bl_length]; omega))
    have HB : Hid (Below w.heap.size w W) := hbel
    generalize chk (bl s) = z at HT ⊢
    clear hrow hbel hsz h2
    go_enter Try.func36, Try.ntmps36
    go_wp2_with fail
    refine (HT.out _ rfl).mono ?_
    rintro e w' ⟨rfl, hw⟩
    subst w'
    clear HT hcv
    go_wp2
    refine bodyPost_ret (v := .tuple #[.int .i64 (z : Int), .bool true]) (by simp [results, Try.results36, go_sem]; try rfl) rfl ?_
    exact ⟨rfl, HB.out⟩
  · rw [if_neg h2] at hF
    simp only [Prod.mk.injEq] at hF
    obtain ⟨rfl, rfl⟩ := hF
    have i2 : (40 : Int) < (s.size : Int) := by omega
    go_enter Try.func36, Try.ntmps36
    go_wp2
    refine bodyPost_ret (v := .tuple #[.int .i64 0, .bool false]) (by simp [results, Try.results36, go_sem]; try rfl) rfl ?_
    exact ⟨rfl, Below.refl _ _⟩

theorem pad_row (b : Bs) (h : b.length < 16) : (overB (zeros 16) 0 b).set b.length 128 = padB b := by
  unfold overB padB
  rw [List.take_zero, List.nil_append, Nat.zero_add, List.set_append_right _ _ (Nat.le_refl _), Nat.sub_self, List.append_assoc]
  congr 1
  unfold zeros
  rw [List.drop_replicate]
  obtain ⟨k, hk⟩ : ∃ k, 16 - b.length = k + 1 := ⟨15 - b.length, by omega⟩
  rw [hk, List.replicate_succ, List.set_cons_zero, show 15 - b.length = k by omega]
  rfl

set_option maxHeartbeats 1000000 in
theorem implPadBody_c (s : ByteArray) (w : World) (hs : s.size ≤ 17592186044416) (t : ByteArray) (fb : Bool) (hF : padBF s = (t, fb)) :
    Calls Try.prog 24 #[.string s] w fun e w' => e = .returned (.tuple #[.string t, .bool fb]) ∧ Below w.heap.size w w' := by
  unfold padBF at hF
  by_cases h2 : s.size < 16
  · rw [if_pos h2] at hF
    simp only [Prod.mk.injEq] at hF
    obtain ⟨rfl, rfl⟩ := hF
    have i2 : ¬ (16 : Int) ≤ (s.size : Int) := by omega
    have i3 : (s.size : Int) < 16 := by omega
    obtain ⟨M, hmk, hrow⟩ := make_run 16 (by omega)
    have hmk' : (Instr.makeSlice 22 (.int .i64 16) (.int .i64 16)).run Try.prog w = .ok (.slice (some ⟨w.heap.size, 0, none⟩) 16 16) (w.alloc (.cells M 5)) := hmk w
    have hr0 := hrow w
    have hb0 := balloc w (.cells M 5)
    have hs0 : (w.alloc (.cells M 5)).heap.size = w.heap.size + 1 := by simp
    obtain ⟨W, hW⟩ : ∃ W, w.alloc (.cells M 5) = W := ⟨_, rfl⟩
    rw [hW] at hmk' hr0 hb0 hs0
    have hz : (zeros 16).length = 16 := by simp [zeros]
    have hcp : ∀ ty, (Builtin.copy_ #[22, 9] ty #[.slice (some ⟨w.heap.size, 0, none⟩) 16 16, .string s]).run Try.prog W = .ok (goInt s.size) (W.setCells w.heap.size 0 (cellsB (bl s))) := fun ty =>
      run_copy_string (P := Try.prog) W 22 9 ty 5 w.heap.size 0 16 16 s Try.underlying22 (fun w => by kernel_rfl) (by omega) (fun j hj => by rw [Nat.zero_add, hr0.1 j (by rw [hz]; omega)]; rfl) (fun j hj => by rw [Nat.zero_add]; exact hr0.2 j (by rw [hz]; omega))
    have hr1 := hr0.sets (o := 0) (m := bl s) (by rw [hz, bl_length]; omega)
    have hg1 := grown_setCells w.heap.size (cellsB (bl s)) 0 W
    generalize W.setCells w.heap.size 0 (cellsB (bl s)) = V at hcp hr1 hg1
    have hl1 : (overB (zeros 16) 0 (bl s)).length = 16 := by rw [overB_length (by rw [hz, bl_length]; omega), hz]
    have g1 := hr1.1 s.size (by omega)
    have g2 := hr1.2 s.size (by omega)
    have hr2 := hr1.set (k := s.size) (by omega) 128
    rw [show (overB (zeros 16) 0 (bl s)).set s.size 128 = padB (bl s) by rw [← bl_length s]; exact pad_row _ (by rw [bl_length]; exact h2)] at hr2
    have hcv := hr2.text 16 16 (padB_length (by rw [bl_length]; exact h2))
    have HB : Hid (Below w.heap.size w (V.setCell ⟨w.heap.size, s.size, none⟩ (.int .u8 128))) := (hb0.trans (below_grown hg1 (Nat.le_refl _) (by omega))).setCell (Nat.le_refl _) _
    have i4 : (0 : Int) ≤ (s.size : Int) := by omega
    simp only [show ((128 : UInt8).toNat : Int) = 128 from rfl] at hcv
    clear hr0 hb0 hs0 hr1 hg1 hr2 hrow hmk h2 hW
    generalize bN (overB (zeros 16) 0 (bl s)) s.size = q at g1
    generalize padB (bl s) = z at hcv ⊢
    go_enter Try.func24, Try.ntmps24
    go_wp2
    refine bodyPost_ret (v := .tuple #[.string (tx z), .bool true]) (by simp [results, Try.results24, go_sem]; try rfl) rfl ?_
    exact ⟨rfl, HB.out⟩
  · rw [if_neg h2] at hF
    simp only [Prod.mk.injEq] at hF
    obtain ⟨rfl, rfl⟩ := hF
    have i2 : (16 : Int) ≤ (s.size : Int) := by omega
    go_enter Try.func24, Try.ntmps24
    go_wp2
    refine bodyPost_ret (v := .tuple #[.string ByteArray.empty, .bool false]) (by simp [results, Try.results24, go_sem]; try rfl) rfl ?_
    exact ⟨rfl, Below.refl _ _⟩

end Go.Proofs.Ytnfoflijapbkdaa
