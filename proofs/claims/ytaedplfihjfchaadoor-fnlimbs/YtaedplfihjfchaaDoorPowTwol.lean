/- powerOfTwo: a row with one bit. -/
import Derived.Test.YtaedplfihjfchaaDoorImplTimes2l
namespace Go.Proofs.YtaedplfihjfchaaDoor
set_option linter.unusedVariables false
set_option maxRecDepth 1000000
set_option linter.unusedSimpArgs false
open Go.RowKit

theorem pw_bd {i : Nat} (h : i < 16) : 0 < (2 : Int) ^ i ∧ (2 : Int) ^ i < 65536 := by
  rcases (by omega : i = 0 ∨ i = 1 ∨ i = 2 ∨ i = 3 ∨ i = 4 ∨ i = 5 ∨ i = 6 ∨ i = 7 ∨ i = 8 ∨ i = 9 ∨ i = 10 ∨ i = 11 ∨ i = 12 ∨ i = 13 ∨ i = 14 ∨ i = 15) with rfl | rfl | rfl | rfl | rfl | rfl | rfl | rfl | rfl | rfl | rfl | rfl | rfl | rfl | rfl | rfl
  all_goals decide

theorem pow_split {k : Int} {j : Nat} (h0 : 0 ≤ k) (hd : k / 16 = j) : (2 : Int) ^ k.toNat = 2 ^ (16 * j) * 2 ^ (k % 16).toNat := by
  rw [← Int.pow_add]
  congr 1
  omega

set_option maxHeartbeats 2000000 in
theorem powerOfTwo_c (k : Int) (w : World) (h0 : 0 ≤ k) (h1 : k ≤ 95) :
    Calls Tryd.prog 53 #[.int .i64 k] w fun e w' => ∃ p0 p1 p2 p3 p4 p5 : Int, e = .returned (.agg #[.int .i64 p0, .int .i64 p1, .int .i64 p2, .int .i64 p3, .int .i64 p4, .int .i64 p5]) ∧ Hid (Digs [p0, p1, p2, p3, p4, p5] ∧ val [p0, p1, p2, p3, p4, p5] = 2 ^ k.toNat) ∧ Below w.heap.size w w' := by
  have hb := pw_bd (i := (k % 16).toNat) (by omega)
  have hpw := fun (j : Nat) (hd : k / 16 = (j : Int)) => pow_split h0 hd
  obtain ⟨x, hx⟩ : ∃ x, (2 : Int) ^ (k % 16).toNat = x := ⟨_, rfl⟩
  rw [hx] at hb hpw
  have hsh : IntKind.i64.wrap (2 ^ (k % 16).toNat) = x := by rw [hx, IntKind.wrap_i64]; omega
  obtain ⟨x0, x1⟩ := hb
  have hm0 : 0 ≤ k % 16 := by omega
  clear hx
  rcases (by omega : k / 16 = 0 ∨ k / 16 = 1 ∨ k / 16 = 2 ∨ k / 16 = 3 ∨ k / 16 = 4 ∨ k / 16 = 5) with hd | hd | hd | hd | hd | hd
  · have HV : Hid (Digs [x, 0, 0, 0, 0, 0] ∧ val [x, 0, 0, 0, 0, 0] = 2 ^ k.toNat) := by
      refine ⟨?_, ?_⟩
      · simp [Digs]; omega
      · rw [hpw 0 hd]; first | (simp [val]; done) | (simp [val]; omega)
    clear hpw
    go_enter Tryd.func53, Tryd.ntmps53
    go_wp2
    refine bodyPost_ret (v := .agg #[.int .i64 x, .int .i64 0, .int .i64 0, .int .i64 0, .int .i64 0, .int .i64 0]) (by simp [results, Tryd.results53, go_sem]) rfl ⟨x, 0, 0, 0, 0, 0, rfl, HV, ?_⟩
    repeat (first | with_reducible exact Below.refl _ _ | refine Below.drew ?_ | refine Below.alloc ?_ (by first | exact Nat.le_refl _ | (simp; done) | (simp; omega)) _ | refine Below.setCell ?_ (by first | (simp; done) | (simp; omega)) _)
  · have HV : Hid (Digs [0, x, 0, 0, 0, 0] ∧ val [0, x, 0, 0, 0, 0] = 2 ^ k.toNat) := by
      refine ⟨?_, ?_⟩
      · simp [Digs]; omega
      · rw [hpw 1 hd]; first | (simp [val]; done) | (simp [val]; omega)
    clear hpw
    go_enter Tryd.func53, Tryd.ntmps53
    go_wp2
    refine bodyPost_ret (v := .agg #[.int .i64 0, .int .i64 x, .int .i64 0, .int .i64 0, .int .i64 0, .int .i64 0]) (by simp [results, Tryd.results53, go_sem]) rfl ⟨0, x, 0, 0, 0, 0, rfl, HV, ?_⟩
    repeat (first | with_reducible exact Below.refl _ _ | refine Below.drew ?_ | refine Below.alloc ?_ (by first | exact Nat.le_refl _ | (simp; done) | (simp; omega)) _ | refine Below.setCell ?_ (by first | (simp; done) | (simp; omega)) _)
  · have HV : Hid (Digs [0, 0, x, 0, 0, 0] ∧ val [0, 0, x, 0, 0, 0] = 2 ^ k.toNat) := by
      refine ⟨?_, ?_⟩
      · simp [Digs]; omega
      · rw [hpw 2 hd]; first | (simp [val]; done) | (simp [val]; omega)
    clear hpw
    go_enter Tryd.func53, Tryd.ntmps53
    go_wp2
    refine bodyPost_ret (v := .agg #[.int .i64 0, .int .i64 0, .int .i64 x, .int .i64 0, .int .i64 0, .int .i64 0]) (by simp [results, Tryd.results53, go_sem]) rfl ⟨0, 0, x, 0, 0, 0, rfl, HV, ?_⟩
    repeat (first | with_reducible exact Below.refl _ _ | refine Below.drew ?_ | refine Below.alloc ?_ (by first | exact Nat.le_refl _ | (simp; done) | (simp; omega)) _ | refine Below.setCell ?_ (by first | (simp; done) | (simp; omega)) _)
  · have HV : Hid (Digs [0, 0, 0, x, 0, 0] ∧ val [0, 0, 0, x, 0, 0] = 2 ^ k.toNat) := by
      refine ⟨?_, ?_⟩
      · simp [Digs]; omega
      · rw [hpw 3 hd]; first | (simp [val]; done) | (simp [val]; omega)
    clear hpw
    go_enter Tryd.func53, Tryd.ntmps53
    go_wp2
    refine bodyPost_ret (v := .agg #[.int .i64 0, .int .i64 0, .int .i64 0, .int .i64 x, .int .i64 0, .int .i64 0]) (by simp [results, Tryd.results53, go_sem]) rfl ⟨0, 0, 0, x, 0, 0, rfl, HV, ?_⟩
    repeat (first | with_reducible exact Below.refl _ _ | refine Below.drew ?_ | refine Below.alloc ?_ (by first | exact Nat.le_refl _ | (simp; done) | (simp; omega)) _ | refine Below.setCell ?_ (by first | (simp; done) | (simp; omega)) _)
  · have HV : Hid (Digs [0, 0, 0, 0, x, 0] ∧ val [0, 0, 0, 0, x, 0] = 2 ^ k.toNat) := by
      refine ⟨?_, ?_⟩
      · simp [Digs]; omega
      · rw [hpw 4 hd]; first | (simp [val]; done) | (simp [val]; omega)
    clear hpw
    go_enter Tryd.func53, Tryd.ntmps53
    go_wp2
    refine bodyPost_ret (v := .agg #[.int .i64 0, .int .i64 0, .int .i64 0, .int .i64 0, .int .i64 x, .int .i64 0]) (by simp [results, Tryd.results53, go_sem]) rfl ⟨0, 0, 0, 0, x, 0, rfl, HV, ?_⟩
    repeat (first | with_reducible exact Below.refl _ _ | refine Below.drew ?_ | refine Below.alloc ?_ (by first | exact Nat.le_refl _ | (simp; done) | (simp; omega)) _ | refine Below.setCell ?_ (by first | (simp; done) | (simp; omega)) _)
  · have HV : Hid (Digs [0, 0, 0, 0, 0, x] ∧ val [0, 0, 0, 0, 0, x] = 2 ^ k.toNat) := by
      refine ⟨?_, ?_⟩
      · simp [Digs]; omega
      · rw [hpw 5 hd]; first | (simp [val]; done) | (simp [val]; omega)
    clear hpw
    go_enter Tryd.func53, Tryd.ntmps53
    go_wp2
    refine bodyPost_ret (v := .agg #[.int .i64 0, .int .i64 0, .int .i64 0, .int .i64 0, .int .i64 0, .int .i64 x]) (by simp [results, Tryd.results53, go_sem]) rfl ⟨0, 0, 0, 0, 0, x, rfl, HV, ?_⟩
    repeat (first | with_reducible exact Below.refl _ _ | refine Below.drew ?_ | refine Below.alloc ?_ (by first | exact Nat.le_refl _ | (simp; done) | (simp; omega)) _ | refine Below.setCell ?_ (by first | (simp; done) | (simp; omega)) _)

theorem powerOfTwo_d {k : Int} {p0 p1 p2 p3 p4 p5 : Int} {w : World} (h0 : 0 ≤ k) (h1 : k ≤ 95) (dp : Digs [p0, p1, p2, p3, p4, p5]) (hv : val [p0, p1, p2, p3, p4, p5] = 2 ^ k.toNat) (W : World) (hB : Below w.heap.size w W) :
    Calls Tryd.prog 53 #[.int .i64 k] W fun e w' => e = .returned (.agg #[.int .i64 p0, .int .i64 p1, .int .i64 p2, .int .i64 p3, .int .i64 p4, .int .i64 p5]) ∧ Hid (Below w.heap.size w w') ∧ Below W.heap.size W w' := by
  refine (powerOfTwo_c k W h0 h1).mono ?_
  rintro e w' ⟨q0, q1, q2, q3, q4, q5, rfl, hh, hb⟩
  have e1 := digs_uniq (by simp) dp hh.out.1 (hv.trans hh.out.2.symm)
  simp only [List.cons.injEq, and_true] at e1
  obtain ⟨rfl, rfl, rfl, rfl, rfl, rfl⟩ := e1
  exact ⟨rfl, hB.trans (hb.mono hB.size), hb⟩

end Go.Proofs.YtaedplfihjfchaaDoor
