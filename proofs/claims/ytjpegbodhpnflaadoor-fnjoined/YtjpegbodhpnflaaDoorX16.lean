/- Chapter 16: l16Take and TakeNumber of the specification. -/
import Derived.Test.YtjpegbodhpnflaaDoorV16
namespace Go.Proofs.YtjpegbodhpnflaaDoor
set_option linter.unusedVariables false
set_option maxRecDepth 1000000
set_option linter.unusedSimpArgs false
open Go.RowKit

theorem playL_c (n : Int) (w : World) : Calls Tryd.prog 50 #[.int .i64 n] w fun e w' => e = .returned (.bool (playB n)) ∧ w' = w := by
  have q := fun wx => l1In_c n 1 100000 wx
  unfold playB
  generalize decide (1 ≤ n ∧ n ≤ 100000) = z at q ⊢
  go_enter Tryd.func50, Tryd.ntmps50
  go_wp2_with fail
  refine (q _).mono ?_
  rintro e w1 ⟨rfl, hw⟩
  subst w1
  go_wp2
  go_ret
  exact ⟨rfl, rfl⟩

theorem ofInt_nat (a : Nat) (ha : a < 2 ^ 63) : (BitVec.ofInt 64 (a : Int)).toNat = a := by
  rw [BitVec.ofInt_natCast, BitVec.toNat_ofNat]; exact Nat.mod_eq_of_lt (by omega)
theorem bits_or_nat (a c : Nat) (ha : a < 2 ^ 63) (hc : c < 2 ^ 63) : bits BinOp.or IntKind.i64 (a : Int) (c : Int) = ((a ||| c : Nat) : Int) := by
  have h1 : a ||| c < 2 ^ 63 := Nat.or_lt_two_pow ha hc
  show IntKind.i64.wrap ((BitVec.ofInt 64 (a : Int) ||| BitVec.ofInt 64 (c : Int)).toNat : Int) = _
  rw [BitVec.toNat_or, ofInt_nat a ha, ofInt_nat c hc, IntKind.wrap_i64]
  omega
theorem bits_and_nat (a c : Nat) (ha : a < 2 ^ 63) (hc : c < 2 ^ 63) : bits BinOp.and IntKind.i64 (a : Int) (c : Int) = ((a &&& c : Nat) : Int) := by
  have h1 : a &&& c < 2 ^ 63 := Nat.and_lt_two_pow _ hc
  show IntKind.i64.wrap ((BitVec.ofInt 64 (a : Int) &&& BitVec.ofInt 64 (c : Int)).toNat : Int) = _
  rw [BitVec.toNat_and, ofInt_nat a ha, ofInt_nat c hc, IntKind.wrap_i64]
  omega
theorem pow_le16 {k : Nat} (hk : k < 16) : 2 ^ k ≤ 32768 := show 2 ^ k ≤ 2 ^ 15 from Nat.pow_le_pow_right (by omega) (by omega)
theorem wr_pow {k : Nat} (hk : k < 16) : wrap64 (2 ^ k) = ((2 ^ k : Nat) : Int) := by
  have := pow_le16 hk
  have e : ((2 : Int) ^ k) = ((2 ^ k : Nat) : Int) := by norm_cast
  rw [e]
  generalize 2 ^ k = p at this ⊢
  unfold wrap64
  omega
theorem orE {b k : Nat} (hb : b < 65536) (hk : k < 16) : bits BinOp.or IntKind.i64 (b : Int) (wrap64 (2 ^ k)) = ((b ||| 1 <<< k : Nat) : Int) := by
  have := pow_le16 hk
  rw [wr_pow hk, bits_or_nat _ _ (by omega) (by omega), Nat.shiftLeft_eq, Nat.one_mul]
theorem shlE {b k : Nat} (hb : b < 65536) (hk : k < 16) : bits BinOp.or IntKind.i64 (bits BinOp.and IntKind.i64 (wrap64 ((b : Int) * 2 ^ k)) 65535) 1 = (((b <<< k) &&& 65535 ||| 1 : Nat) : Int) := by
  have h2 := pow_le16 hk
  have e : ((2 : Int) ^ k) = ((2 ^ k : Nat) : Int) := by norm_cast
  have h3 : b * 2 ^ k ≤ 65536 * 32768 := Nat.mul_le_mul (by omega) h2
  have e2 : wrap64 ((b : Int) * 2 ^ k) = ((b * 2 ^ k : Nat) : Int) := by
    rw [e, ← Int.natCast_mul]
    generalize b * 2 ^ k = p at h3 ⊢
    unfold wrap64
    omega
  have h4 : (b * 2 ^ k) &&& 65535 < 2 ^ 63 := Nat.and_lt_two_pow _ (by omega)
  rw [e2, show (65535 : Int) = ((65535 : Nat) : Int) from rfl, bits_and_nat _ _ (by omega) (by omega), show (1 : Int) = ((1 : Nat) : Int) from rfl, bits_or_nat _ _ h4 (by omega), Nat.shiftLeft_eq]

set_option maxHeartbeats 2000000 in
theorem l16Take_c (t n : Int) (b : Nat) (w : World) (h : GoodW t b) (hn : 1 ≤ n ∧ n ≤ 100000) :
    Calls Tryd.prog 41 #[.agg #[.int .i64 t, .int .i64 b], .int .i64 n] w fun e w' => e = .returned (.tuple #[.agg #[.int .i64 (takeW t b n).1.1, .int .i64 ((takeW t b n).1.2 : Nat)], .int .i64 (takeW t b n).2]) ∧ Below w.heap.size w w' := by
  obtain ⟨h0, h1, hb, _, _⟩ := h
  unfold takeW
  have HBits : Hid (∀ k : Nat, bits BinOp.and IntKind.i64 ((b : Int) / 2 ^ k) 1 = if b.testBit k = true then 1 else 0) := fun k => bitAt hb k
  by_cases c1 : 16 ≤ t - n
  · rw [if_pos c1]
    show Calls _ _ _ _ fun e w' => e = .returned (.tuple #[.agg #[.int .i64 t, .int .i64 b], .int .i64 2]) ∧ _
    go_enter Tryd.func41, Tryd.ntmps41
    go_wp2
    refine bodyPost_ret (v := .tuple #[.agg #[.int .i64 t, .int .i64 b], .int .i64 2]) (by simp [results, Tryd.results41, go_sem, ]; try rfl) rfl ?_
    exact ⟨rfl, ((Below.refl _ _).alloc (Nat.le_refl _) _).alloc (by simp) _⟩
  rw [if_neg c1]
  by_cases c3 : 0 ≤ t - n
  · obtain ⟨k, hk⟩ : ∃ k : Nat, t - n = k := ⟨(t - n).toNat, by omega⟩
    have hk16 : k < 16 := by omega
    have hB := HBits.out k
    have e0 : (t - n).toNat = k := by omega
    rw [e0]
    cases hkb : b.testBit k
    · rw [hkb, if_neg (by decide)] at hB
      rw [if_neg (by simp), if_pos c3]
      show Calls _ _ _ _ fun e w' => e = .returned (.tuple #[.agg #[.int .i64 t, .int .i64 ((b ||| 1 <<< k : Nat) : Int)], .int .i64 0]) ∧ _
      go_enter Tryd.func41, Tryd.ntmps41
      go_wp2
      refine bodyPost_ret (v := .tuple #[.agg #[.int .i64 t, .int .i64 (bits BinOp.or IntKind.i64 (b : Int) (wrap64 (2 ^ k)))], .int .i64 0]) (by simp [results, Tryd.results41, go_sem, ]; try rfl) rfl ?_
      exact ⟨by rw [orE hb hk16], ((Below.refl _ _).alloc (Nat.le_refl _) _).alloc (by simp) _⟩
    · rw [hkb, if_pos rfl] at hB
      rw [if_pos ⟨c3, rfl⟩]
      show Calls _ _ _ _ fun e w' => e = .returned (.tuple #[.agg #[.int .i64 t, .int .i64 b], .int .i64 1]) ∧ _
      go_enter Tryd.func41, Tryd.ntmps41
      go_wp2
      refine bodyPost_ret (v := .tuple #[.agg #[.int .i64 t, .int .i64 b], .int .i64 1]) (by simp [results, Tryd.results41, go_sem, ]; try rfl) rfl ?_
      exact ⟨rfl, ((Below.refl _ _).alloc (Nat.le_refl _) _).alloc (by simp) _⟩
  rw [if_neg (fun e => c3 e.1), if_neg c3]
  by_cases c4 : 16 ≤ n - t
  · rw [if_pos c4]
    show Calls _ _ _ _ fun e w' => e = .returned (.tuple #[.agg #[.int .i64 n, .int .i64 1], .int .i64 0]) ∧ _
    go_enter Tryd.func41, Tryd.ntmps41
    go_wp2
    refine bodyPost_ret (v := .tuple #[.agg #[.int .i64 n, .int .i64 1], .int .i64 0]) (by simp [results, Tryd.results41, go_sem, ]; try rfl) rfl ?_
    exact ⟨rfl, ((Below.refl _ _).alloc (Nat.le_refl _) _).alloc (by simp) _⟩
  rw [if_neg c4]
  obtain ⟨k, hk⟩ : ∃ k : Nat, n - t = k := ⟨(n - t).toNat, by omega⟩
  have hk16 : k < 16 := by omega
  have e0 : (n - t).toNat = k := by omega
  rw [e0]
  show Calls _ _ _ _ fun e w' => e = .returned (.tuple #[.agg #[.int .i64 n, .int .i64 (((b <<< k) &&& 65535 ||| 1 : Nat) : Int)], .int .i64 0]) ∧ _
  go_enter Tryd.func41, Tryd.ntmps41
  go_wp2
  refine bodyPost_ret (v := .tuple #[.agg #[.int .i64 n, .int .i64 (bits BinOp.or IntKind.i64 (bits BinOp.and IntKind.i64 (wrap64 ((b : Int) * 2 ^ (-(t - n)).toNat)) 65535) 1)], .int .i64 0]) (by simp [results, Tryd.results41, go_sem, ]; try rfl) rfl ?_
  exact ⟨by rw [show (-(t - n)).toNat = k by omega, shlE hb hk16], ((Below.refl _ _).alloc (Nat.le_refl _) _).alloc (by simp) _⟩

theorem specTake_c (t x n : Int) (w : World) (hx64 : -9223372036854775808 ≤ x ∧ x ≤ 9223372036854775807) (ht64 : -9223372036854775808 ≤ t ∧ t ≤ 9223372036854775807) :
    Calls Tryd.prog 20 #[.agg #[.int .i64 t, .int .i64 x], .int .i64 n] w fun e w' => e = .returned (.tuple #[.agg #[.int .i64 (takeT t x n).1.1, .int .i64 (takeT t x n).1.2], .int .i64 (takeT t x n).2, .bool (takeOk t x n)]) ∧ Below w.heap.size w w' := by
  obtain ⟨W, hW⟩ : ∃ X, (w.alloc (.cells #[.int .i64 t, .int .i64 x] 26)).alloc (.cells #[.int .i64 0, .int .i64 0] 26) = X := ⟨_, rfl⟩
  have hb1 : W.heap[w.heap.size]? = some (.cells #[.int .i64 t, .int .i64 x] 26 (0, 0)) := by rw [← hW]; exact (Lib.alloc_old _ _ _ (by simp)).trans (heap_alloc_new w _)
  have hb2 : W.heap[w.heap.size + 1]? = some (.cells #[.int .i64 0, .int .i64 0] 26 (0, 0)) := by
    rw [← hW]
    have h := heap_alloc_new (w.alloc (.cells #[.int .i64 t, .int .i64 x] 26)) (.cells #[.int .i64 0, .int .i64 0] 26)
    simpa using h
  have hsz : W.heap.size = w.heap.size + 2 := by rw [← hW]; simp
  have HB0 : Hid (Below w.heap.size w W) := by rw [← hW]; exact ((Below.refl _ _).alloc (Nat.le_refl _) _).alloc (by simp) _
  have q := specGood_c t x W hx64 ht64
  have qp : Hid (∀ wx, Calls Tryd.prog 50 #[.int .i64 n] wx fun e w' => e = .returned (.bool (playB n)) ∧ w' = wx) := fun wx => playL_c n wx
  have HF : Hid (∀ w2, Below W.heap.size W w2 → (w2.cell? ⟨w.heap.size, 0, none⟩ = some (.int .i64 t) ∧ w2.cell? ⟨w.heap.size, 1, none⟩ = some (.int .i64 x) ∧ w2.frozen? ⟨w.heap.size, 0, none⟩ = false ∧ w2.frozen? ⟨w.heap.size, 1, none⟩ = false) ∧ w2.cell? ⟨w.heap.size + 1, 0, none⟩ = some (.int .i64 0) ∧ w2.cell? ⟨w.heap.size + 1, 1, none⟩ = some (.int .i64 0) ∧ w2.frozen? ⟨w.heap.size + 1, 0, none⟩ = false ∧ w2.frozen? ⟨w.heap.size + 1, 1, none⟩ = false) := fun w2 h => ⟨cell2 h (by omega) hb1, cell2 h (by omega) hb2⟩
  obtain ⟨⟨a0, a1, _, _⟩, _⟩ := HF.out W (Below.refl _ _)
  by_cases hok : takeOk t x n = true
  case neg =>
    have hk : takeOk t x n = false := by simpa using hok
    rw [takeT_bad hk, hk]
    have hgp : (goodWn t x = false) ∨ (goodWn t x = true ∧ playB n = false) := by
      unfold takeOk at hk
      cases hg : goodWn t x
      · exact Or.inl rfl
      · rw [hg] at hk; exact Or.inr ⟨rfl, by simpa using hk⟩
    rcases hgp with hg | ⟨hg, hp⟩
    · rw [hg] at q
      clear hb1 hb2 hg hk hok
      go_enter Tryd.func20, Tryd.ntmps20
      go_wp2_with fail
      refine q.mono ?_
      clear q a0 a1
      rintro e w1 ⟨rfl, b1⟩
      obtain ⟨_, c0, c1, f0, f1⟩ := HF.out _ b1
      have B1 : Hid (∀ u v, Below w.heap.size w ((w1.setCell ⟨w.heap.size + 1, 0, none⟩ u).setCell ⟨w.heap.size + 1, 1, none⟩ v)) := fun u v => ((HB0.out.trans (b1.mono HB0.out.size)).setCell (p := ⟨w.heap.size + 1, 0, none⟩) (by show w.heap.size ≤ w.heap.size + 1; omega) u).setCell (p := ⟨w.heap.size + 1, 1, none⟩) (by show w.heap.size ≤ w.heap.size + 1; omega) v
      obtain ⟨hc0, hc1⟩ := set2 w1 (w.heap.size + 1) (.int .i64 0) (.int .i64 0) c0 c1
      clear b1 hW
      go_wp2
      refine bodyPost_ret (v := .tuple #[.agg #[.int .i64 0, .int .i64 0], .int .i64 0, .bool false]) (by simp [results, Tryd.results20, go_sem, hc0, hc1]; try rfl) rfl ?_
      exact ⟨rfl, B1.out _ _⟩
    · rw [hg] at q
      rw [hp] at qp
      clear hb1 hb2 hg hk hp hok
      go_enter Tryd.func20, Tryd.ntmps20
      go_wp2_with fail
      refine q.mono ?_
      clear q a0 a1
      rintro e w1 ⟨rfl, b1⟩
      obtain ⟨_, c0, c1, f0, f1⟩ := HF.out _ b1
      have B1 : Hid (∀ u v, Below w.heap.size w ((w1.setCell ⟨w.heap.size + 1, 0, none⟩ u).setCell ⟨w.heap.size + 1, 1, none⟩ v)) := fun u v => ((HB0.out.trans (b1.mono HB0.out.size)).setCell (p := ⟨w.heap.size + 1, 0, none⟩) (by show w.heap.size ≤ w.heap.size + 1; omega) u).setCell (p := ⟨w.heap.size + 1, 1, none⟩) (by show w.heap.size ≤ w.heap.size + 1; omega) v
      obtain ⟨hc0, hc1⟩ := set2 w1 (w.heap.size + 1) (.int .i64 0) (.int .i64 0) c0 c1
      clear b1 hW
      go_wp2_with (go_at_call 50; refine (qp.out _).mono ?_; clear qp; rintro e w2 ⟨rfl, hw⟩; subst w2)
      refine bodyPost_ret (v := .tuple #[.agg #[.int .i64 0, .int .i64 0], .int .i64 0, .bool false]) (by simp [results, Tryd.results20, go_sem, hc0, hc1]; try rfl) rfl ?_
      exact ⟨rfl, B1.out _ _⟩
  have hgp : goodWn t x = true ∧ playB n = true := by
    unfold takeOk at hok
    simpa using hok
  obtain ⟨hg, hp⟩ := hgp
  obtain ⟨hx0, hG⟩ := goodWn_of hg
  obtain ⟨b, rfl⟩ : ∃ b : Nat, x = b := ⟨x.toNat, by omega⟩
  rw [Int.toNat_natCast] at hG
  obtain ⟨eT, eK⟩ := takeT_good hG hp
  rw [eT, eK]
  rw [hg] at q
  rw [hp] at qp
  have HTk : Hid (∀ wx, Calls Tryd.prog 41 #[.agg #[.int .i64 t, .int .i64 b], .int .i64 n] wx fun e w' => e = .returned (.tuple #[.agg #[.int .i64 (takeW t b n).1.1, .int .i64 ((takeW t b n).1.2 : Nat)], .int .i64 (takeW t b n).2]) ∧ Below wx.heap.size wx w') := fun wx => l16Take_c t n b wx hG (playB_bd hp)
  show Calls _ _ _ _ fun e w' => e = .returned (.tuple #[.agg #[.int .i64 (takeW t b n).1.1, .int .i64 ((takeW t b n).1.2 : Nat)], .int .i64 (takeW t b n).2, .bool true]) ∧ _
  generalize (takeW t b n).1.1 = T at HTk ⊢
  generalize (takeW t b n).1.2 = R at HTk ⊢
  generalize (takeW t b n).2 = cd at HTk ⊢
  clear hb1 hb2 hg hp hok eT eK hG
  go_enter Tryd.func20, Tryd.ntmps20
  go_wp2_with fail
  refine q.mono ?_
  clear q a0 a1
  rintro e w1 ⟨rfl, b1⟩
  have B1 : Hid (Below W.heap.size W w1) := b1
  obtain ⟨⟨a0, a1, _, _⟩, _⟩ := HF.out _ b1
  clear b1
  go_wp2_with (go_at_call 50; refine (qp.out _).mono ?_; clear qp; rintro e w2 ⟨rfl, hw⟩; subst w2)
  refine (HTk.out _).mono ?_
  clear HTk a0 a1
  rintro e w2 ⟨rfl, b2⟩
  have b2' := B1.out.trans (b2.mono B1.out.size)
  have b3' := b2'.alloc b2'.size (.cells #[.int .i64 T, .int .i64 R] 26)
  obtain ⟨_, c0, c1, f0, f1⟩ := HF.out _ b3'
  have B3 : Hid (∀ u v, Below w.heap.size w (((w2.alloc (.cells #[.int .i64 T, .int .i64 R] 26)).setCell ⟨w.heap.size + 1, 0, none⟩ u).setCell ⟨w.heap.size + 1, 1, none⟩ v)) := fun u v => (((HB0.out.trans (b3'.mono HB0.out.size)).setCell (p := ⟨w.heap.size + 1, 0, none⟩) (by show w.heap.size ≤ w.heap.size + 1; omega) u).setCell (p := ⟨w.heap.size + 1, 1, none⟩) (by show w.heap.size ≤ w.heap.size + 1; omega) v)
  obtain ⟨hc0, hc1⟩ := set2 (w2.alloc (.cells #[.int .i64 T, .int .i64 R] 26)) (w.heap.size + 1) (.int .i64 T) (.int .i64 R) c0 c1
  clear b2 b2' b3' hW B1
  go_wp2
  refine bodyPost_ret (v := .tuple #[.agg #[.int .i64 T, .int .i64 R], .int .i64 cd, .bool true]) (by simp [results, Tryd.results20, go_sem, hc0, hc1]; try rfl) rfl ?_
  exact ⟨rfl, B3.out _ _⟩

end Go.Proofs.YtjpegbodhpnflaaDoor
