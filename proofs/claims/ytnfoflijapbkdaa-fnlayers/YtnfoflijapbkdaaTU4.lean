/- MixText and UnmixText of the specification: the contracts. -/
import Derived.Test.YtnfoflijapbkdaaTS4
namespace Go.Proofs.Ytnfoflijapbkdaa
set_option linter.unusedVariables false
set_option maxRecDepth 1000000
set_option linter.unusedSimpArgs false
open Go.RowKit

set_option maxHeartbeats 4000000 in
theorem specMixT_at (ao : Option Addr) (n c S0 : Nat) (s : ByteArray) (xs : List Int) (w : World) (hx : xs.length = n) (hk : keysB xs = true) (hS : S0 < 65536) (hp : pairsB s = true) (hr : Rd w ao xs) (hT : ∀ wx, wx = w → Calls Try.prog 82 #[.slice ao n c, .int .i64 S0, .string s] wx fun e w' => e = .returned (.bool true) ∧ w' = wx) :
    Calls Try.prog 73 #[.slice ao n c, .int .i64 S0, .string s] w fun e w' => e = .returned (.tuple #[.string (strOfNums (mixO (nums xs) S0 s (s.size / 2))), .bool true]) ∧ Below w.heap.size w w' := by
  obtain ⟨i0, hi, hz0, hz1, hz2⟩ := info_parts Try.infoByte
  obtain ⟨h40, hev⟩ : s.size ≤ 40 ∧ s.size % 2 = 0 := by simpa [pairsB] using hp
  have HX : Hid (xs.length = n) := hx
  have HK : Hid (keysB xs = true) := hk
  have HR : Hid (Rd w ao xs) := hr
  have HT : Hid (∀ wx, wx = w → Calls Try.prog 82 #[.slice ao n c, .int .i64 S0, .string s] wx fun e w' => e = .returned (.bool true) ∧ w' = wx) := hT
  have h40i : (s.size : Int) ≤ 40 := by omega
  have HEV : Hid (s.size % 2 = 0) := hev
  clear hx hk hr hp hT hev
  go_enter Try.func73, Try.ntmps73
  go_wp2_with (go_at_call 82; refine (HT.out _ rfl).mono ?_; clear HT; rintro e w' ⟨rfl, hw⟩; subst w')
  go_loopw [1, 8, 9] (fun sv v i wr => ∃ (j p st : Nat), Hid (p = 2 * j) ∧ p ≤ s.size ∧ i = .int .i64 p ∧ sv = .int .i64 st ∧ st < 65536 ∧ Hid (st = mixS (nums xs) S0 s j) ∧ Hid (OwnU wr w.heap.size v (mixO (nums xs) S0 s j)) ∧ Hid (Below w.heap.size w wr)) (fun _ _ i _ => s.size - (intOf i).toNat)
  case atStart => exact ⟨0, 0, S0, rfl, Nat.zero_le _, rfl, rfl, hS, rfl, World.ownsRow_nil _ _ _ _, Below.refl _ _⟩
  case round =>
    obtain ⟨j, p, st, hpj, hps, rfl, rfl, hst, hS', hO, hB⟩ := hrel
    by_cases hlt : p < s.size
    · have hp2 : p + 1 < s.size := by have := hpj.out; have := HEV.out; omega
      obtain ⟨P, hP⟩ : ∃ P, P = pairN s p := ⟨_, rfl⟩
      have hPl : P < 65536 := by rw [hP]; exact pairN_lt _ _
      have hb1 := byteN_lt s p
      have hb2 := byteN_lt s (p + 1)
      have e1 := byteN_eq (show p < s.size by omega)
      have e2 := byteN_eq hp2
      obtain ⟨A, hA⟩ : ∃ A, A = byteN s p := ⟨_, rfl⟩
      obtain ⟨D, hD⟩ : ∃ D, D = byteN s (p + 1) := ⟨_, rfl⟩
      rw [← hA] at e1 hb1
      rw [← hD] at e2 hb2
      have hPA : P = 256 * A + D := by rw [hP, hA, hD]; rfl
      have HPA : Hid (P = pairN s p) := hP
      clear hA hD hP
      have h0 : (0 : Int) ≤ (p : Int) := by omega
      have h1 : (p : Int) < (s.size : Int) := by omega
      have h2 : (0 : Int) ≤ (p : Int) + 1 := by omega
      have h3 : (p : Int) + 1 < (s.size : Int) := by omega
      have ht : ((p : Int) + 1).toNat = p + 1 := by omega
      obtain ⟨X, hX⟩ : ∃ X, X = P ^^^ st := ⟨_, rfl⟩
      have hXl : X < 65536 := by rw [hX]; exact xor_lt hPl hst
      have hxor : bits BinOp.xor IntKind.i64 (256 * (A : Int) + D) st = (X : Int) := by
        have := i64_xor hPl hst
        rw [← hX, hPA] at this
        rw [← this]; congr 1
      have HQ : Hid (∀ m, Calls Try.prog 83 #[.slice ao n c, .int .i64 X] (wr.drewN m) fun e w' => e = .returned (.int .i64 (mixN (nums xs) X : Nat)) ∧ w' = wr.drewN m) := fun m => l4Mix_c ao n c X xs _ HX.out HK.out hXl (HR.out.later (below_drewN hB.out m))
      have hZl := mixN_lt (ks := nums xs) hXl
      have HZ : Hid (mixS (nums xs) S0 s (j + 1) = mixN (nums xs) X) := by show _ = _; rw [mixS, hX, HPA.out, hpj.out, ← hS'.out]
      have HN : Hid (mixO (nums xs) S0 s (j + 1) = mixO (nums xs) S0 s j ++ two (mixN (nums xs) X)) := by show _ = _; rw [mixO, HZ.out]
      generalize mixN (nums xs) X = Z at HQ hZl HZ HN
      clear hX hPA hPl HPA hS'
      obtain ⟨U, hU⟩ : ∃ U : Nat, U = Z / 256 := ⟨_, rfl⟩
      obtain ⟨L, hL⟩ : ∃ L : Nat, L = Z % 256 := ⟨_, rfl⟩
      have hU1 : (Z : Int) / 256 % 256 = (U : Int) := by omega
      have hU2 : (Z : Int) / 256 = (U : Int) := by omega
      have hU3 : (U : Int) % 256 = (U : Int) := by omega
      have hL1 : (Z : Int) % 256 = (L : Int) := by omega
      have hL2 : (L : Int) % 256 = (L : Int) := by omega
      have HU : Hid (U = Z / 256) := hU
      have HL : Hid (L = Z % 256) := hL
      clear hU hL
      have hob : ∀ k', u8.ownBlock = some k' → w.heap.size ≤ k' := fun k hk => (World.ownsRow.lt hO.out k hk).1
      have hown : wr.ownsRow w.heap.size 5 1 u8 (mixO (nums xs) S0 s j).length (cellsU (mixO (nums xs) S0 s j)) := hO.out
      have hql : (mixO (nums xs) S0 s j).length ≤ 40 := by rw [mixO_length]; have := hpj.out; omega
      generalize mixO (nums xs) S0 s j = out at HN hown hql
      obtain ⟨q, hq⟩ : ∃ q, out.length = q := ⟨_, rfl⟩
      have HLo : Hid (out.length = q) := hq
      rw [hq] at hown hql
      clear hq hO
      go_wp2
      go_quiet ((go_at_call 83; exact Calls.quiet_of_same (HQ.out _)))
      have hbq : Below wr.heap.size wr (wr.drewN nq) := below_drewN (Below.refl _ _) nq
      have hown2 : (wr.drewN nq).ownsRow w.heap.size 5 1 u8 q (cellsU out) := ownsRow_later hown hbq
      have HB2 : Hid (Below w.heap.size w (wr.drewN nq)) := below_drewN hB.out nq
      generalize wr.drewN nq = wq at hown2 HB2 ⊢
      clear hown hbq HQ
      go_wp2_with (at_builtin; refine wpList_append_own _ rfl _ _ 22 rfl w.heap.size 5 i0 (.int .u8 0) 1 1 Try.underlying22 hi hz0 hz1 hz2 rfl (by decide) _ _ _ rfl (hown2.alloc _) ⟨wq.heap.size, 0, none⟩ 2 2 [.int .u8 (U : Int), .int .u8 (L : Int)] rfl rfl (cell_new2 _ _ _ _) (by simp [Value.oneCell']) (by unfold maxLen; omega) (by omega) (by have := HB2.out.size; simp; omega) ?_; intro v' w2 hown' hgrow _; have HO' : Hid (w2.ownsRow w.heap.size 5 1 v' (q + 2) (cellsU out ++ [.int .u8 (U : Int), .int .u8 (L : Int)])) := hown'; have HB' : Hid (Below w.heap.size w w2) := (HB2.out.alloc HB2.out.size _).grown hgrow (by have := HB2.out.size; simp; omega) (fun k' e => hob k' e); clear hown' hgrow)
      go_roundw
      case rel => exact ⟨j + 1, p + 2, Z, by show _ = _; have := hpj.out; omega, by omega, by go_num, rfl, hZl, HZ.out.symm, by show OwnU _ _ _ _; rw [HN.out]; unfold OwnU; rw [List.length_append, HLo.out]; simpa [cellsU, two, ← HU.out, ← HL.out] using HO'.out, HB'⟩
      case measure => simp [intOf]; omega
    · have HJ : Hid (s.size / 2 = j) := by show _ = _; have := hpj.out; omega
      have hcv := hO.out.text
      have HO2 : Hid (mixO (nums xs) S0 s (s.size / 2) = mixO (nums xs) S0 s j) := by show _ = _; rw [HJ.out]
      generalize hgo : strOfNums (mixO (nums xs) S0 s j) = txt at hcv
      have HG : Hid (strOfNums (mixO (nums xs) S0 s (s.size / 2)) = txt) := by show _ = _; rw [HO2.out]; exact hgo
      have hge : (s.size : Int) ≤ (p : Int) := by omega
      clear hgo
      go_wp2
      refine bodyPost_ret (v := .tuple #[.string txt, .bool true]) (by simp [results, Try.results73, go_sem]; try rfl) rfl ?_
      exact ⟨by rw [HG.out], hB.out⟩

theorem specMixT_c (ao : Option Addr) (n c : Nat) (x : Int) (s : ByteArray) (xs : List Int) (w : World) (hx : xs.length = n) (hn : n ≤ 17592186044416) (hm : s.size ≤ 17592186044416) (hr : Rd w ao xs) (t : ByteArray) (fb : Bool) (hF : mixTF xs x s = (t, fb)) :
    Calls Try.prog 73 #[.slice ao n c, .int .i64 x, .string s] w fun e w' => e = .returned (.tuple #[.string t, .bool fb]) ∧ Below w.heap.size w w' := by
  unfold mixTF at hF
  have hT := fun wx (h : wx = w) => l4Text_c ao n c x s xs wx hx hn hm (by rw [h]; exact hr)
  by_cases h : textG xs x s = true
  · rw [if_pos h] at hF
    simp only [Prod.mk.injEq] at hF
    obtain ⟨rfl, rfl⟩ := hF
    rw [h] at hT
    obtain ⟨h1, h2, h3⟩ := textG_parts h
    have hx2 : 0 ≤ x ∧ x ≤ 65535 := by simpa [blockB] using h2
    obtain ⟨B, rfl⟩ : ∃ B : Nat, x = B := ⟨x.toNat, by omega⟩
    simp only [Int.toNat_natCast]
    exact specMixT_at ao n c B s xs w hx h1 (by omega) h3 hr hT
  · rw [if_neg h] at hF
    simp only [Prod.mk.injEq] at hF
    obtain ⟨rfl, rfl⟩ := hF
    rw [Bool.eq_false_iff.2 h] at hT
    clear h
    go_enter Try.func73, Try.ntmps73
    go_wp2_with (go_at_call 82; refine (hT _ rfl).mono ?_; clear hT; rintro e w' ⟨rfl, hw⟩; subst w')
    refine bodyPost_ret (v := .tuple #[.string ByteArray.empty, .bool false]) (by simp [results, Try.results73, go_sem]; try rfl) rfl ?_
    exact ⟨rfl, Below.refl _ _⟩

end Go.Proofs.Ytnfoflijapbkdaa
