/- The contract of the program's timesOneAnd, at ten. -/
import Derived.Test.YtaedplfihjfchaaDoorNum2l
import Derived.Test.YtaedplfihjfchaaDoorImplAddl
import Derived.Test.YtaedplfihjfchaaDoorSpecTimes2l
import Derived.Test.YtaedplfihjfchaaDoorBigOfl
namespace Go.Proofs.YtaedplfihjfchaaDoor
set_option linter.unusedVariables false
set_option maxRecDepth 1000000
set_option linter.unusedSimpArgs false
open Go.RowKit

/-- A row times ten, and more. -/
def mulC : List Int → Int → List Int × Int
  | x :: xs, c => (((x * 10 + c) % 65536) :: (mulC xs ((x * 10 + c) / 65536)).1, (mulC xs ((x * 10 + c) / 65536)).2)
  | [], c => ([], c)

theorem mulC_spec : ∀ {xs : List Int} (c : Int), Digs xs → 0 ≤ c → c ≤ 9 → val ((mulC xs c).1 ++ [(mulC xs c).2]) = 10 * val xs + c ∧ Digs (mulC xs c).1 ∧ (mulC xs c).1.length = xs.length ∧ 0 ≤ (mulC xs c).2 ∧ (mulC xs c).2 ≤ 9
  | [], c, _, h0, h1 => by simp [mulC, val, digs_nil]; omega
  | x :: xs, c, hx, h0, h1 => by
    have a := hx.head
    obtain ⟨i1, i2, i3, i4, i5⟩ := mulC_spec (xs := xs) ((x * 10 + c) / 65536) hx.tail (by omega) (by omega)
    simp only [mulC, List.cons_append, val, i1, List.length_cons, i3]
    refine ⟨by omega, digs_cons (by omega) (by omega) i2, ?_, i4, i5⟩ <;> simp

def MulSt (L : List Int) (m : Int) (k : Nat) (R : List Int) (c : Int) : Prop :=
  R.length = 6 ∧ R.drop k = L.drop k ∧ R.take k ++ (mulC (L.drop k) c).1 = (mulC L m).1 ∧ (mulC (L.drop k) c).2 = (mulC L m).2

theorem mulSt_step {L R : List Int} {k : Nat} {c m : Int} (hL : L.length = 6) (hk : k < 6) (h : MulSt L m k R c) :
    MulSt L m (k + 1) (R.set k ((L.getD k 0 * 10 + c) % 65536)) ((L.getD k 0 * 10 + c) / 65536) := by
  obtain ⟨h1, h2, h3, h4⟩ := h
  rw [drop_cons (show k < L.length by omega)] at h3 h4
  simp only [mulC] at h3 h4
  refine ⟨by simpa using h1, ?_, ?_, h4⟩
  · rw [drop_set_succ]
    have := congrArg (List.drop 1) h2
    simpa [List.drop_drop, Nat.add_comm] using this
  · rw [take_set_succ (by omega), List.append_assoc, List.singleton_append]; exact h3

theorem mulSt_end {L R : List Int} {c m : Int} (hL : L.length = 6) (h : MulSt L m 6 R c) : R = (mulC L m).1 ∧ c = (mulC L m).2 := by
  obtain ⟨h1, h2, h3, h4⟩ := h
  rw [List.drop_eq_nil_of_le (by omega)] at h3 h4
  simp only [mulC, List.append_nil] at h3 h4
  rw [List.take_of_length_le (by omega)] at h3
  exact ⟨h3, h4⟩

set_option maxHeartbeats 2000000 in
theorem timesOneAnd_c (a0 a1 a2 a3 a4 a5 m : Int) (w : World) (da : Digs [a0, a1, a2, a3, a4, a5]) (m0 : 0 ≤ m) (m9 : m ≤ 9) (r0 r1 r2 r3 r4 r5 cy : Int) (hE : mulC [a0, a1, a2, a3, a4, a5] m = ([r0, r1, r2, r3, r4, r5], cy)) :
    Calls Tryd.prog 48 #[.agg #[.int .i64 a0, .int .i64 a1, .int .i64 a2, .int .i64 a3, .int .i64 a4, .int .i64 a5], .int .i64 10, .int .i64 m] w fun e w' =>
      e = .returned (.tuple #[.agg #[.int .i64 r0, .int .i64 r1, .int .i64 r2, .int .i64 r3, .int .i64 r4, .int .i64 r5], .int .i64 cy]) ∧ Below w.heap.size w w' := by
  go_enter Tryd.func48, Tryd.ntmps48
  generalize hL : [a0, a1, a2, a3, a4, a5] = L at *
  have HL : Hid ([a0, a1, a2, a3, a4, a5] = L) := hL
  have lL : Hid (L.length = 6) := by rw [← hL]; rfl
  have HD : Hid (Digs L) := da
  have HE : Hid (mulC L m = ([r0, r1, r2, r3, r4, r5], cy)) := hE
  clear hL da hE
  go_wp2
  go_loopw [8, 12] (fun cv i wr => ∃ (k : Nat) (c : Int) (R : List Int), k ≤ 6 ∧ i = .int .i64 k ∧ cv = .int .i64 c ∧ 0 ≤ c ∧ c ≤ 9 ∧ Hid (MulSt L m k R c) ∧ Hid (OwnA 53 wr w.heap.size R) ∧ Hid (OwnA 53 wr (w.heap.size + 1) [0, 0, 0, 0, 0, 0]) ∧ Hid (Below w.heap.size w wr)) (fun _ i _ => 6 - (intOf i).toNat)
  case atStart =>
    refine ⟨0, m, L, by omega, rfl, rfl, m0, m9, ⟨lL.out, rfl, by simp, rfl⟩, ?_, ?_, ?_⟩
    · exact (ownA_at _ _ _ L _ (by rw [← HL.out]; rfl) (by rw [lL.out]; omega) rfl).alloc _
    · exact ownA_at _ _ _ _ _ rfl (by simp) (by simp)
    · exact below_two w _ _
  case round =>
    obtain ⟨k, c, R, hk, rfl, rfl, c0, c9, hSt, hA, hR, hB⟩ := hrel
    by_cases hlt : k < 6
    · have g1 := hA.out.cell k (by rw [hSt.out.1]; omega)
      rw [getD_of_drop hSt.out.2.1 k (Nat.le_refl _)] at g1
      have g3 := hA.out.free k
      have k0 : (0 : Int) ≤ (k : Int) := by omega
      have k6 : (k : Int) < 6 := by omega
      have dX := HD.out.getD k
      have HS1 : Hid (MulSt L m (k + 1) (R.set k ((L.getD k 0 * 10 + c) % 65536)) ((L.getD k 0 * 10 + c) / 65536)) := mulSt_step lL.out hlt hSt.out
      generalize L.getD k 0 = x at g1 dX HS1
      go_wp2
      go_roundw
      case rel => exact ⟨k + 1, (x * 10 + c) / 65536, R.set k ((x * 10 + c) % 65536), by omega, by go_num, rfl, by omega, by omega, HS1.out, hA.out.stored k _, hR.out.other _ _ (by simp), hB.out.setCell (Nat.le_refl _) _⟩
      case measure => simp [intOf]; omega
    · obtain rfl : k = 6 := by omega
      obtain ⟨e1, e2⟩ := mulSt_end lL.out hSt.out
      rw [HE.out] at e1 e2
      have e2' : c = cy := e2
      subst e2'
      rw [show R = [r0, r1, r2, r3, r4, r5] from e1] at hA
      obtain ⟨q0, q1, q2, q3, q4, q5⟩ := hA.out.cells6
      obtain ⟨t0, t1, t2, t3, t4, t5⟩ := hR.out.cells6
      have f0 := hR.out.free 0
      have f1 := hR.out.free 1
      have f2 := hR.out.free 2
      have f3 := hR.out.free 3
      have f4 := hR.out.free 4
      have f5 := hR.out.free 5
      clear hA hR e1 e2 hSt
      go_wp2
      refine bodyPost_ret (v := .tuple #[.agg #[.int .i64 r0, .int .i64 r1, .int .i64 r2, .int .i64 r3, .int .i64 r4, .int .i64 r5], .int .i64 c]) (by simp [results, Tryd.results48, go_sem, *]) rfl ⟨rfl, ?_⟩
      exact below_set6 hB.out (by omega)

end Go.Proofs.YtaedplfihjfchaaDoor
namespace Go.Proofs.YtaedplfihjfchaaDoor
set_option linter.unusedVariables false
set_option maxRecDepth 1000000
set_option linter.unusedSimpArgs false
open Go.RowKit

def byts (s : ByteArray) : List Int := s.data.toList.map (fun b => (b.toNat : Int))

theorem byts_length (s : ByteArray) : (byts s).length = s.size := by simp [byts]
theorem byts_getD (s : ByteArray) (k : Nat) (h : k < s.size) : (byts s).getD k 0 = (s[k].toNat : Int) := by
  have h1 : k < (byts s).length := by rw [byts_length]; exact h
  simp only [List.getD, List.getElem?_eq_getElem h1, Option.getD_some]
  simp only [byts, List.getElem_map]
  rfl

def decV (l : List Int) : Int := l.foldl (fun acc c => 10 * acc + (c - 48)) 0

theorem decV_snoc (l : List Int) (c : Int) : decV (l ++ [c]) = 10 * decV l + (c - 48) := by simp [decV, List.foldl_append]

def DigAll (l : List Int) : Prop := ∀ c ∈ l, 48 ≤ c ∧ c ≤ 57

theorem digAll_take_succ {l : List Int} {k : Nat} (h : DigAll (l.take k)) (hk : k < l.length) (hc : 48 ≤ l.getD k 0 ∧ l.getD k 0 ≤ 57) : DigAll (l.take (k + 1)) := by
  rw [take_snoc_getD l k hk]
  intro c hm
  rcases List.mem_append.1 hm with hm | hm
  · exact h c hm
  · simp only [List.mem_singleton] at hm
    rw [hm]; exact hc

theorem decV_succ {l : List Int} {k : Nat} (hk : k < l.length) : decV (l.take (k + 1)) = 10 * decV (l.take k) + (l.getD k 0 - 48) := by
  rw [take_snoc_getD l k hk, decV_snoc]

theorem decV_bd {l : List Int} : ∀ k, k ≤ l.length → DigAll (l.take k) → 0 ≤ decV (l.take k) ∧ decV (l.take k) < (10 : Int) ^ k
  | 0, _, _ => by simp [decV]
  | k + 1, hk, h => by
    have hd : DigAll (l.take k) := fun c hc => h c (by rw [take_snoc_getD l k (by omega)]; exact List.mem_append_left _ hc)
    have hl := h (l.getD k 0) (by rw [take_snoc_getD l k (by omega)]; simp)
    obtain ⟨i1, i2⟩ := decV_bd k (by omega) hd
    rw [decV_succ (by omega), Int.pow_succ]
    omega

theorem pow10_30 {k : Nat} (h : k ≤ 30) : (10 : Int) ^ k ≤ 1000000000000000000000000000000 := by
  have : ∀ j : Fin 31, (10 : Int) ^ j.val ≤ 1000000000000000000000000000000 := by decide
  exact this ⟨k, by omega⟩

theorem decV_mono {l : List Int} (hd : DigAll l) : ∀ j k, k + j = l.length → decV (l.take k) ≤ decV l
  | 0, k, h => by rw [List.take_of_length_le (by omega)]; exact Int.le_refl _
  | j + 1, k, h => by
    have ih := decV_mono hd j (k + 1) (by omega)
    have hl := hd (l.getD k 0) (by
      simp only [List.getD, List.getElem?_eq_getElem (show k < l.length by omega), Option.getD_some]; exact List.getElem_mem _)
    have hb := (decV_bd (l := l) k (by omega) (fun c hc => hd c (List.mem_of_mem_take hc))).1
    rw [decV_succ (by omega)] at ih
    omega

def digOk (l : List Int) : Bool := l.all (fun c => decide (48 ≤ c) && decide (c ≤ 57))
theorem digOk_iff (l : List Int) : digOk l = true ↔ DigAll l := by simp [digOk, DigAll]

def digF (l : List Int) : List Int × Bool := if l.length < 1 ∨ 30 < l.length ∨ (1 < l.length ∧ l.getD 0 0 = 48) then ([], false) else if digOk l then tellF (decV l) else ([], false)

theorem digF_len {l : List Int} (h : l.length < 1 ∨ 30 < l.length ∨ (1 < l.length ∧ l.getD 0 0 = 48)) : digF l = ([], false) := by rw [digF, if_pos h]

theorem digF_bad {l : List Int} {k : Nat} (hk : k < l.length) (h : ¬ (48 ≤ l.getD k 0 ∧ l.getD k 0 ≤ 57)) : digF l = ([], false) := by
  have : digOk l = false := by
    rw [Bool.eq_false_iff]
    intro e
    apply h
    refine (digOk_iff l).1 e (l.getD k 0) ?_
    simp only [List.getD, List.getElem?_eq_getElem hk, Option.getD_some]; exact List.getElem_mem _
  rw [digF, this]; simp

theorem digF_over {l : List Int} {k : Nat} (hk : k ≤ l.length) (h : 79228162514264337593543950336 ≤ decV (l.take k)) : digF l = ([], false) := by
  by_cases hl : l.length < 1 ∨ 30 < l.length ∨ (1 < l.length ∧ l.getD 0 0 = 48)
  · exact digF_len hl
  · rw [digF, if_neg hl]
    cases hd : digOk l
    · simp
    · have := decV_mono ((digOk_iff l).1 hd) (l.length - k) k (by omega)
      rw [tellF_bad (by omega)]; simp

theorem digF_good {l : List Int} (hl : ¬ (l.length < 1 ∨ 30 < l.length ∨ (1 < l.length ∧ l.getD 0 0 = 48))) (hd : DigAll l) : digF l = tellF (decV l) := by
  rw [digF, if_neg hl, (digOk_iff l).2 hd]; simp

theorem digF_short {l zs : List Int} {fb : Bool} (h : digF l = (zs, fb)) : zs.length ≤ 6 := by
  by_cases hl : l.length < 1 ∨ 30 < l.length ∨ (1 < l.length ∧ l.getD 0 0 = 48)
  · rw [digF_len hl] at h
    simp only [Prod.mk.injEq] at h
    rw [← h.1]; simp
  · rw [digF, if_neg hl] at h
    cases hd : digOk l
    · rw [hd] at h
      simp at h
      rw [h.1]; simp
    · rw [hd] at h
      simp only [if_true] at h
      have hda := (digOk_iff l).1 hd
      have := (decV_bd (l := l) l.length (Nat.le_refl _) (by rw [List.take_of_length_le (Nat.le_refl _)]; exact hda)).1
      rw [List.take_of_length_le (Nat.le_refl _)] at this
      exact tellF_short this h

end Go.Proofs.YtaedplfihjfchaaDoor
