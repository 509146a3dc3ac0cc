/- The program's DigitsOf. -/
import Derived.Test.YtaedplfihjfchaaDoorDI2l
import Derived.Test.YtaedplfihjfchaaDoorImplAdd3l
import Derived.Deep.RegionWith
import Derived.Test.YtaedplfihjfchaaDoorNuml
namespace Go.Proofs.YtaedplfihjfchaaDoor
set_option linter.unusedVariables false
set_option maxRecDepth 1000000
set_option linter.unusedSimpArgs false
open Go.RowKit

/-- The text of a number, none for nought. -/
def dlS (n : Nat) : ByteArray := if h : n = 0 then ByteArray.empty else dlS (n / 10) ++ digS (n % 10)
termination_by n
decreasing_by omega
theorem dlS_zero : dlS 0 = ByteArray.empty := by rw [dlS]; simp
theorem dlS_pos {n : Nat} (h : 0 < n) : dlS n = dlS (n / 10) ++ digS (n % 10) := by
  rw [dlS]; simp [show n ≠ 0 by omega]
def decS (n : Nat) : ByteArray := dlS (n / 10) ++ digS (n % 10)
theorem dlS_size : ∀ (k n : Nat), n < 10 ^ k → (dlS n).size ≤ k
  | 0, n, h => by
    have : n = 0 := by omega
    subst this; rw [dlS_zero]; exact Nat.le_refl _
  | k + 1, n, h => by
    by_cases h0 : n = 0
    · subst h0; rw [dlS_zero]; exact Nat.zero_le _
    · rw [dlS_pos (by omega), ByteArray.size_append, digS_size]
      have := dlS_size k (n / 10) (by rw [Nat.pow_succ] at h; omega)
      omega
theorem decS_size {n : Nat} (h : n < 79228162514264337593543950336) : (decS n).size ≤ 30 := by
  rw [decS, ByteArray.size_append, digS_size]
  have := dlS_size 29 (n / 10) (Nat.lt_of_lt_of_le (Nat.lt_of_le_of_lt (Nat.div_le_self _ _) h) (by decide))
  omega
theorem dlS_step {n : Nat} (h : 0 < n) (s : ByteArray) : dlS n ++ s = dlS (n / 10) ++ (digS (n % 10) ++ s) := by
  rw [dlS_pos h, ByteArray.append_assoc]
theorem dlS_done (s : ByteArray) : dlS 0 ++ s = s := by rw [dlS_zero, ByteArray.empty_append]
def digitsF (xs : List Int) : ByteArray × Bool := if goodB xs = true then (decS (val xs).toNat, true) else (ByteArray.empty, false)

theorem OwnA.set6' {t : TypeId} {w : World} {g : Nat} {a0 a1 a2 a3 a4 a5 : Int} (h : OwnA t w g [a0, a1, a2, a3, a4, a5]) (r0 r1 r2 r3 r4 r5 : Int) :
    OwnA t ((((((w.setCell ⟨g, 0, none⟩ (.int .i64 r0)).setCell ⟨g, 1, none⟩ (.int .i64 r1)).setCell ⟨g, 2, none⟩ (.int .i64 r2)).setCell ⟨g, 3, none⟩ (.int .i64 r3)).setCell ⟨g, 4, none⟩ (.int .i64 r4)).setCell ⟨g, 5, none⟩ (.int .i64 r5)) g [r0, r1, r2, r3, r4, r5] :=
  (((((h.stored 0 r0).stored 1 r1).stored 2 r2).stored 3 r3).stored 4 r4).stored 5 r5

def strLen : Value → Nat
  | .string s => s.size
  | _ => 0

theorem dv_row {L : List Int} (h : L.length = 6) : ∃ r0 r1 r2 r3 r4 r5 rs, dv L = ([r0, r1, r2, r3, r4, r5], rs) := by
  obtain ⟨r0, r1, r2, r3, r4, r5, e⟩ := list6 (L := (dv L).1) (by rw [dv_length, h])
  exact ⟨r0, r1, r2, r3, r4, r5, (dv L).2, Prod.ext e rfl⟩
theorem dv_tell {L R : List Int} {rs : Int} (h : dv L = (R, rs)) (d : Digs L) : Digs R ∧ (val R).toNat = (val L).toNat / 10 ∧ ∃ k : Nat, rs = (k : Int) ∧ k < 10 ∧ k = (val L).toNat % 10 := by
  have h1 := dv_val L
  have h2 := dv_rest L
  have h3 := dv_digs L d
  rw [h] at h1 h2 h3
  have h4 := val_nonneg h3
  refine ⟨h3, ?_, rs.toNat, ?_, ?_, ?_⟩ <;> simp only [] at h1 h2 h4 <;> omega

set_option maxHeartbeats 4000000 in
theorem implDigits_good (ao : Option Addr) (n c : Nat) (xs : List Int) (w : World) (hx : xs.length = n) (hn : n ≤ 17592186044416) (hr : Rd w ao xs) (gx : goodB xs = true) :
    Calls Tryd.prog 16 #[.agg #[.slice ao n c]] w fun e w' => e = .returned (.tuple #[.string (decS (val xs).toNat), .bool true]) ∧ Below w.heap.size w w' := by
  obtain ⟨lx, dx, _⟩ := goodB_digs gx
  have HX : Hid (xs.length = n) := hx
  have HR : Hid (Rd w ao xs) := hr
  obtain ⟨a0, a1, a2, a3, a4, a5, h6⟩ := list6 (pad6_length lx)
  have HP : Hid (pad6 xs = [a0, a1, a2, a3, a4, a5]) := h6
  have DA : Hid (Digs [a0, a1, a2, a3, a4, a5]) := by rw [← h6]; exact pad6_digs dx
  have VA : Hid (val [a0, a1, a2, a3, a4, a5] = val xs) := by rw [← h6]; exact pad6_val xs
  have HV : Hid ((val xs).toNat < 79228162514264337593543950336) := by
    have h := val_lt6 DA.out (by simp)
    rw [VA.out] at h
    show _ < _
    omega
  have hn6 : n ≤ 6 := by rw [← hx]; exact lx
  clear h6 dx lx hx hr
  go_enter Tryd.func16, Tryd.ntmps16
  have HB0 : Hid (Below w.heap.size w (w.alloc (.cells #[.slice ao n c] 25))) := (Below.refl _ _).alloc (Nat.le_refl _) _
  go_wp2_with fail
  refine (implGood_c ao n c xs _ HX.out hn (HR.out.later HB0.out)).mono ?_
  rw [gx]
  rintro e w1 ⟨rfl, hb⟩
  have HB1 : Hid (Below w.heap.size w w1) := HB0.out.trans (hb.mono (by simp))
  have t1 : w1.cell? ⟨w.heap.size, 0, none⟩ = some (.slice ao n c) := cell_keep (S := 0) hb (by simp)
  clear hb HB0
  go_wp2_with fail
  refine (rowOf_d HP.out HX.out hn6 HR.out w1 HB1.out).mono ?_
  rintro e w2 ⟨rfl, HB2, hb⟩
  clear hb t1 HB1
  obtain ⟨r0, r1, r2, r3, r4, r5, rs, hE⟩ := dv_row (L := [a0, a1, a2, a3, a4, a5]) rfl
  obtain ⟨dR, vR, k0, rfl, hk0, ek0⟩ := dv_tell hE DA.out
  rw [VA.out] at vR ek0
  have DR : Hid (Digs [r0, r1, r2, r3, r4, r5]) := dR
  have HE : Hid (dv [a0, a1, a2, a3, a4, a5] = ([r0, r1, r2, r3, r4, r5], (k0 : Int))) := hE
  have HS : Hid (dlS (val [r0, r1, r2, r3, r4, r5]).toNat ++ digS k0 = decS (val xs).toNat) := by show _ = _; rw [vR, ek0, decS]
  clear dR vR ek0 hE
  go_wp2_with fail
  refine (divideByOne_c a0 a1 a2 a3 a4 a5 w2 DA.out r0 r1 r2 r3 r4 r5 _ HE.out).mono ?_
  rintro e w3 ⟨rfl, hb⟩
  have HB3 : Hid (Below w.heap.size w w3) := HB2.out.trans (hb.mono HB2.out.size)
  clear hb HB2 HE
  go_wp2_with fail
  refine (itoa_c k0 hk0 _).mono ?_
  rintro e w4 ⟨rfl, hw⟩
  subst w4
  obtain ⟨g, hg⟩ : ∃ g, w3.heap.size = g := ⟨_, rfl⟩
  have hwg : w.heap.size ≤ g := by rw [← hg]; exact HB3.out.size
  have HA : Hid (OwnA 53 (w3.alloc (.cells #[.int .i64 r0, .int .i64 r1, .int .i64 r2, .int .i64 r3, .int .i64 r4, .int .i64 r5] 53)) g [r0, r1, r2, r3, r4, r5]) := by
    show OwnA _ _ _ _
    rw [← hg]
    exact ownA_at _ _ _ _ _ rfl (by simp) rfl
  have HB4 : Hid (Below w.heap.size w (w3.alloc (.cells #[.int .i64 r0, .int .i64 r1, .int .i64 r2, .int .i64 r3, .int .i64 r4, .int .i64 r5] 53))) := HB3.out.alloc (by omega) _
  go_wp2
  clear hg HB3
  go_loopw [6] (fun d wr => ∃ (S : ByteArray) (R : List Int), d = .string S ∧ Hid (R.length = 6 ∧ Digs R ∧ dlS (val R).toNat ++ S = decS (val xs).toNat) ∧ Hid (OwnA 53 wr g R) ∧ Hid (Below w.heap.size w wr)) (fun d _ => 31 - strLen d)
  case atStart => exact ⟨_, _, rfl, ⟨rfl, DR.out, HS.out⟩, HA, HB4⟩
  case round =>
    clear HA HB4 HS DR
    obtain ⟨S, R, rfl, hS, hA, hB⟩ := hrel
    obtain ⟨c0, c1, c2, c3, c4, c5, h6⟩ := list6 hS.out.1
    subst h6
    obtain ⟨q0, q1, q2, q3, q4, q5⟩ := hA.out.cells6
    have hnq := fun wx => run_neq_row wx c0 c1 c2 c3 c4 c5 0 0 0 0 0 0
    by_cases hz : [c0, c1, c2, c3, c4, c5] = [0, 0, 0, 0, 0, 0]
    · have HE : Hid (S = decS (val xs).toNat) := by
        have h := hS.out.2.2
        rw [hz, show (val [0, 0, 0, 0, 0, 0]).toNat = 0 from rfl, dlS_done] at h
        exact h
      simp only [decide_eq_true hz, Bool.not_true] at hnq
      clear hz hS hA
      go_wp2
      refine bodyPost_ret (v := .tuple #[.string S, .bool true]) (by simp [results, Tryd.results16, go_sem]; try rfl) rfl ?_
      exact ⟨by rw [HE.out], hB.out⟩
    · simp only [decide_eq_false hz, Bool.not_false] at hnq
      have hpos : 0 < (val [c0, c1, c2, c3, c4, c5]).toNat := by
        have d := hS.out.2.1
        have d0 := d c0 (by simp)
        have d1 := d c1 (by simp)
        have d2 := d c2 (by simp)
        have d3 := d c3 (by simp)
        have d4 := d c4 (by simp)
        have d5 := d c5 (by simp)
        rcases Nat.eq_zero_or_pos (val [c0, c1, c2, c3, c4, c5]).toNat with h | h
        · simp only [val] at h
          refine absurd ?_ hz
          simp only [List.cons.injEq, and_true]
          omega
        · exact h
      obtain ⟨s0, s1, s2, s3, s4, s5, rt, hE⟩ := dv_row (L := [c0, c1, c2, c3, c4, c5]) rfl
      obtain ⟨dR, vR, k1, rfl, hk1, ek1⟩ := dv_tell hE hS.out.2.1
      have HE : Hid (dv [c0, c1, c2, c3, c4, c5] = ([s0, s1, s2, s3, s4, s5], (k1 : Int))) := hE
      have HD : Hid (Digs [c0, c1, c2, c3, c4, c5]) := hS.out.2.1
      have HS2 : Hid (([s0, s1, s2, s3, s4, s5] : List Int).length = 6 ∧ Digs [s0, s1, s2, s3, s4, s5] ∧ dlS (val [s0, s1, s2, s3, s4, s5]).toNat ++ (digS k1 ++ S) = decS (val xs).toNat) := ⟨rfl, dR, by rw [vR, ek1, ← dlS_step hpos]; exact hS.out.2.2⟩
      have hsz : S.size + 1 ≤ 30 := by
        have h := decS_size HV.out
        rw [← HS2.out.2.2, ByteArray.size_append, ByteArray.size_append, digS_size] at h
        omega
      have hds := digS_size k1
      have hcat : (digS k1).size + S.size ≤ 9223372036854775807 := by omega
      clear hE dR vR ek1 hpos hz hS
      go_wp2_with fail
      refine (divideByOne_c c0 c1 c2 c3 c4 c5 wr HD.out s0 s1 s2 s3 s4 s5 _ HE.out).mono ?_
      rintro e w5 ⟨rfl, hb⟩
      have HA5 : Hid (OwnA 53 w5 g [c0, c1, c2, c3, c4, c5]) := hA.out.later hb
      have HB5 : Hid (Below w.heap.size w w5) := hB.out.trans (hb.mono hB.out.size)
      obtain ⟨p0, p1, p2, p3, p4, p5⟩ := HA5.out.cells6
      have e0 := HA5.out.free 0
      have e1 := HA5.out.free 1
      have e2 := HA5.out.free 2
      have e3 := HA5.out.free 3
      have e4 := HA5.out.free 4
      have e5 := HA5.out.free 5
      clear hb hA hB q0 q1 q2 q3 q4 q5 hnq HE HD
      go_wp2_with fail
      refine (itoa_c k1 hk1 _).mono ?_
      rintro e w6 ⟨rfl, hw⟩
      subst w6
      generalize digS k1 = T at *
      go_wp2
      go_roundw
      case rel => exact ⟨T ++ S, [s0, s1, s2, s3, s4, s5], rfl, HS2, HA5.out.set6' s0 s1 s2 s3 s4 s5, below_set6 HB5.out hwg⟩
      case measure => simp [strLen, ByteArray.size_append]; omega

end Go.Proofs.YtaedplfihjfchaaDoor
namespace Go.Proofs.YtaedplfihjfchaaDoor
set_option linter.unusedVariables false
set_option maxRecDepth 1000000
set_option linter.unusedSimpArgs false

/-- The number that the bits from number i on make. -/
def hiV (xs : List Int) (i : Nat) : Int := val (xs.drop (i / 16)) / 2 ^ (i % 16)
/-- Bit number i. -/
def bitV (xs : List Int) (i : Nat) : Int := xs.getD (i / 16) 0 / 2 ^ (i % 16) % 2

theorem below16 {b : Nat} (h : b < 16) : b = 0 ∨ b = 1 ∨ b = 2 ∨ b = 3 ∨ b = 4 ∨ b = 5 ∨ b = 6 ∨ b = 7 ∨ b = 8 ∨ b = 9 ∨ b = 10 ∨ b = 11 ∨ b = 12 ∨ b = 13 ∨ b = 14 ∨ b = 15 := by omega

theorem bit_split {b : Nat} (hb : b < 15) {X x Y : Int} (e : X = x + 65536 * Y) (h0 : 0 ≤ x) (h1 : x < 65536) : X / 2 ^ b = 2 * (X / 2 ^ (b + 1)) + x / 2 ^ b % 2 := by
  subst e
  rcases below16 (show b < 16 by omega) with rfl | rfl | rfl | rfl | rfl | rfl | rfl | rfl | rfl | rfl | rfl | rfl | rfl | rfl | rfl | rfl
  all_goals (try simp only [Nat.reduceAdd, Int.reducePow])
  all_goals omega

theorem hiV_step {xs : List Int} (h : Digs xs) (i : Nat) : hiV xs i = 2 * hiV xs (i + 1) + bitV xs i := by
  have e := val_drop' xs (i / 16)
  have d := h.getD (i / 16)
  unfold hiV bitV
  by_cases hb : i % 16 = 15
  · rw [show (i + 1) / 16 = i / 16 + 1 by omega, show (i + 1) % 16 = 0 by omega, hb]
    generalize val (xs.drop (i / 16)) = X at e ⊢
    generalize val (xs.drop (i / 16 + 1)) = Y at e ⊢
    generalize xs.getD (i / 16) 0 = x at e d ⊢
    simp only [Int.reducePow]
    omega
  · rw [show (i + 1) / 16 = i / 16 by omega, show (i + 1) % 16 = i % 16 + 1 by omega]
    exact bit_split (by omega) e d.1 d.2

theorem hiV_top (xs : List Int) : hiV xs (16 * xs.length) = 0 := by
  unfold hiV
  rw [show 16 * xs.length / 16 = xs.length by omega, List.drop_length]
  simp [val]

theorem hiV_zero (xs : List Int) : hiV xs 0 = val xs := by simp [hiV]

theorem hiV_nonneg {xs : List Int} (h : Digs xs) (i : Nat) : 0 ≤ hiV xs i :=
  Int.ediv_nonneg (val_nonneg (h.drop _)) (Int.le_of_lt (Int.pow_pos (by omega)))

theorem bitV_bd (xs : List Int) (i : Nat) : 0 ≤ bitV xs i ∧ bitV xs i ≤ 1 := by
  unfold bitV; omega

theorem hiV_le {xs : List Int} (h : Digs xs) : ∀ i : Nat, hiV xs i ≤ val xs
  | 0 => by rw [hiV_zero]; exact Int.le_refl _
  | i + 1 => by
    have h1 := hiV_le h i
    have h2 := hiV_step h i
    have h3 := hiV_nonneg h (i + 1)
    have h4 := bitV_bd xs i
    omega

theorem ed_unique {V B q r : Int} (hB : 0 < B) (e : r + B * q = V) (h0 : 0 ≤ r) (h1 : r < B) : V / B = q ∧ V % B = r :=
  (Int.ediv_emod_unique hB).2 ⟨e, h0, h1⟩

theorem div_low {V B b : Int} (hB : 0 < B) (h0 : 0 ≤ b) (h : 2 * (V % B) + b < B) : (2 * V + b) / B = 2 * (V / B) ∧ (2 * V + b) % B = 2 * (V % B) + b := by
  have e := Int.emod_add_mul_ediv V B
  have n := Int.emod_nonneg V (show B ≠ 0 by omega)
  refine ed_unique hB ?_ (by omega) h
  rw [Int.mul_left_comm]
  omega

theorem div_high {V B b : Int} (hB : 0 < B) (h1 : b ≤ 1) (h : ¬ 2 * (V % B) + b < B) : (2 * V + b) / B = 2 * (V / B) + 1 ∧ (2 * V + b) % B = 2 * (V % B) + b - B := by
  have e := Int.emod_add_mul_ediv V B
  have n := Int.emod_lt_of_pos V hB
  refine ed_unique hB ?_ (by omega) (by omega)
  rw [Int.mul_add, Int.mul_left_comm, Int.mul_one]
  omega

/-- The row O holds the bits of Q from number k on, and nought below. -/
def OQ (O : List Int) (k : Nat) (Q : Int) : Prop := O.length = 6 ∧ Digs O ∧ val (O.drop (k / 16)) = Q * 2 ^ (k % 16) ∧ ∀ j, j < k / 16 → O.getD j 0 = 0

theorem oq_top : OQ [0, 0, 0, 0, 0, 0] 96 0 := by
  refine ⟨rfl, digs_replicate 6, rfl, fun j hj => ?_⟩
  match j, hj with
  | 0, _ => rfl
  | 1, _ => rfl
  | 2, _ => rfl
  | 3, _ => rfl
  | 4, _ => rfl
  | 5, _ => rfl
  | j + 6, h => omega

theorem oq_end {O : List Int} {Q : Int} (h : OQ O 0 Q) : val O = Q := by
  have := h.2.2.1
  simpa using this

theorem oq_here {O : List Int} {i : Nat} {Q : Int} (h : OQ O (i + 1) Q) : val (O.drop (i / 16)) = 2 * Q * 2 ^ (i % 16) := by
  obtain ⟨_, _, h1, h2⟩ := h
  by_cases hb : i % 16 = 15
  · rw [show (i + 1) / 16 = i / 16 + 1 by omega, show (i + 1) % 16 = 0 by omega] at h1
    have h3 := h2 (i / 16) (by omega)
    rw [val_drop', h3, h1, hb]
    simp only [Int.reducePow]
    omega
  · rw [show (i + 1) / 16 = i / 16 by omega, show (i + 1) % 16 = i % 16 + 1 by omega] at h1
    rw [h1, Int.pow_succ, Int.mul_comm 2 Q, Int.mul_assoc, Int.mul_comm 2]

theorem oq_low {O : List Int} {i : Nat} {Q : Int} (h : OQ O (i + 1) Q) : OQ O i (2 * Q) :=
  ⟨h.1, h.2.1, oq_here h, fun j hj => h.2.2.2 j (by omega)⟩

theorem mult_room {b : Nat} (hb : b < 16) {x Y Q : Int} (e : x + 65536 * Y = 2 * Q * 2 ^ b) (h0 : 0 ≤ x) (h1 : x < 65536) : 0 ≤ x + 2 ^ b ∧ x + 2 ^ b < 65536 ∧ x + 2 ^ b + 65536 * Y = (2 * Q + 1) * 2 ^ b := by
  rcases below16 hb with rfl | rfl | rfl | rfl | rfl | rfl | rfl | rfl | rfl | rfl | rfl | rfl | rfl | rfl | rfl | rfl
  all_goals (simp only [Int.reducePow] at e ⊢)
  all_goals omega

theorem oq_room {O : List Int} {i : Nat} {Q : Int} (h : OQ O (i + 1) Q) : 0 ≤ O.getD (i / 16) 0 + 2 ^ (i % 16) ∧ O.getD (i / 16) 0 + 2 ^ (i % 16) < 65536 ∧ O.getD (i / 16) 0 + 2 ^ (i % 16) + 65536 * val (O.drop (i / 16 + 1)) = (2 * Q + 1) * 2 ^ (i % 16) := by
  have e := oq_here h
  rw [val_drop'] at e
  exact mult_room (by omega) e (h.2.1.getD _).1 (h.2.1.getD _).2

theorem digs_set {O : List Int} (h : Digs O) (j : Nat) {x : Int} (h0 : 0 ≤ x) (h1 : x < 65536) : Digs (O.set j x) := by
  intro y hy
  rcases List.mem_or_eq_of_mem_set hy with h2 | rfl
  · exact h y h2
  · exact ⟨h0, h1⟩

theorem oq_high {O : List Int} {i : Nat} {Q : Int} (hi : i < 96) (h : OQ O (i + 1) Q) : OQ (O.set (i / 16) (O.getD (i / 16) 0 + 2 ^ (i % 16))) i (2 * Q + 1) := by
  obtain ⟨r0, r1, r2⟩ := oq_room h
  refine ⟨by rw [List.length_set]; exact h.1, digs_set h.2.1 _ r0 r1, ?_, fun j hj => ?_⟩
  · rw [val_drop', List.drop_set_of_lt (by omega), ← r2]
    congr 1
    rw [List.getD_eq_getElem?_getD, List.getElem?_set_self (by rw [h.1]; omega)]
    rfl
  · rw [List.getD_eq_getElem?_getD, List.getElem?_set_ne (by omega), ← List.getD_eq_getElem?_getD]
    exact h.2.2.2 j (by omega)

end Go.Proofs.YtaedplfihjfchaaDoor
