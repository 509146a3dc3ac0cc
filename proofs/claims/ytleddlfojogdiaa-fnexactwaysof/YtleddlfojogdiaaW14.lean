/- Chapter 14: ways: wayFrom, WaysOf of both sides. -/
import Derived.Test.YtleddlfojogdiaaRK14
import Derived.Test.YtleddlfojogdiaaII14
namespace Go.Proofs.Ytleddlfojogdiaa
set_option linter.unusedVariables false
set_option maxRecDepth 1000000
set_option linter.unusedSimpArgs false
open Go.RowKit

def waysOk (xs : List Ta) (long : Int) : Bool := tasB xs && inB long 1 4

def waysV (xs : List Ta) (long : Int) : List (List Int) := if waysOk xs long = true then waysL (rankL xs) long.toNat (xs.length / long.toNat) else []

theorem way_lt {k M L i : Nat} (hk : k < M) (hi : i < L) : k + i * M < M * L := by
  have := Nat.mul_le_mul_right M (show i + 1 ≤ L from hi)
  rw [Nat.add_mul, Nat.one_mul, Nat.mul_comm L M] at this
  omega

theorem way_ge {k M L : Nat} : M * L ≤ k + L * M := by
  rw [Nat.mul_comm L M]; omega

theorem waysL_getD {rk : List Int} {long many k : Nat} (h : k < many) : (waysL rk long many).getD k [] = wayL rk long many k := by simp [waysL, List.getD, h]

theorem waysL_take {rk : List Int} {long many k : Nat} (h : k < many) : (waysL rk long many).take (k + 1) = (waysL rk long many).take k ++ [wayL rk long many k] := by
  rw [take_snoc9 [] (by rw [waysL_length]; exact h), waysL_getD h]

theorem wayL_front {rk : List Int} {long many k m : Nat} (hm : m = many * long) (hk : k < many) : wayL (rk.take m) long many k = wayL rk long many k := by
  unfold wayL
  refine List.map_congr_left (fun i hi => ?_)
  have hi2 : i < long := by simpa using hi
  have := way_lt hk hi2
  rw [List.getD, List.getD, List.getElem?_take, if_pos (by omega)]

set_option maxHeartbeats 4000000 in
theorem wayFrom_c (ao : Option Addr) (m c : Nat) (zs : List Int) (k M L : Nat) (w : World) (hz : zs.length = m) (hr : Rd w ao zs) (hm : m = M * L) (hk : k < M) (hM : M ≤ 12) (hL : L ≤ 4) (hm12 : m ≤ 12) :
    Calls Try.prog 62 #[.slice ao m c, .int .i64 k, .int .i64 M] w fun e w' => ∃ a' c', e = .returned (.slice a' L c') ∧ Own w' w.heap.size (.slice a' L c') (wayL zs L M k) ∧ Below w.heap.size w w' := by
  have HZ : Hid (zs.length = m) := hz
  have HR : Hid (Rd w ao zs) := hr
  have HM : Hid (∀ i, i < L → k + i * M < m) := fun i hi => by rw [hm]; exact way_lt hk hi
  have HE : Hid (m ≤ k + L * M) := by show _ ≤ _; rw [hm]; exact way_ge
  have hk12 : k ≤ 12 := by omega
  have hM0 : 1 ≤ M := by omega
  clear hz hr hm hk
  go_enter Try.func62, Try.ntmps62
  go_wp2
  go_loopw [7, 8] (fun v av wr => ∃ (i a : Nat), i ≤ L ∧ av = .int .i64 a ∧ a ≤ 60 ∧ Hid (a = k + i * M) ∧ Hid (Own wr w.heap.size v (wayL zs i M k)) ∧ Hid (Below w.heap.size w wr)) (fun _ av _ => 100 - (intOf av).toNat)
  case atStart => exact ⟨0, k, Nat.zero_le _, rfl, by omega, by show _ = _; omega, own_nilI _ _, Below.refl _ _⟩
  case round =>
    obtain ⟨i, a, hi, rfl, ha, hai, hO, hB⟩ := hrel
    by_cases hlt : i < L
    · have ham : a < m := by have h1 := HM.out i hlt; have h2 := hai.out; omega
      have haz : a < zs.length := by rw [HZ.out]; exact ham
      have hz1 : (a : Int) < (m : Int) := by omega
      have hz0 : (0 : Int) ≤ (a : Int) := by omega
      obtain ⟨b, o, rfl, g0⟩ := (Rd.later HR.out hB.out).get haz
      have HS : Hid (wayL zs (i + 1) M k = wayL zs i M k ++ [zs.getD a 0]) := by show _ = _; rw [wayL_succ, hai.out]
      have HLn : Hid ((wayL zs i M k).length = i) := wayL_length _ _ _ _
      have HAI : Hid (a + M = k + (i + 1) * M) := by have := hai.out; show _ = _; rw [Nat.add_mul, Nat.one_mul]; omega
      generalize wayL zs i M k = out at hO HS HLn
      generalize zs.getD a 0 = x0 at g0 HS
      obtain ⟨a', c', hv⟩ := hO.out.shape
      rw [HLn.out] at hv
      subst hv
      have bA := balloc wr (.cells #[.int .i64 x0] 3)
      obtain ⟨v', w5, r1, o5, g5, b5⟩ := appendI_run (wr.alloc (.cells #[.int .i64 x0] 3)) w.heap.size (.slice a' i c') out [x0] (some ⟨wr.heap.size, 0, none⟩) 1 1 (hO.out.later bA) (litI wr _) rfl (fun h => by cases h) (by rw [HLn.out]; omega) (by have := hB.out.size; have := bA.size; omega)
      have HO5 : Hid (Own w5 w.heap.size v' (out ++ [x0])) := o5
      have HB5 : Hid (Below w.heap.size w w5) := (hB.out.trans (bA.mono hB.out.size)).trans b5
      clear bA o5 g5 b5 hO hB haz
      have hM1 : (0 : Int) ≤ (M : Int) := by omega
      go_wp2_with (at_builtin; refine Lib.wpList_append_run _ rfl _ _ _ _ rfl _ _ rfl rfl _ _ (r1 _) ?_; clear r1)
      go_roundw
      case rel => exact ⟨i + 1, a + M, by omega, by go_num, by omega, HAI, by show Own _ _ _ _; rw [HS.out]; exact HO5.out, HB5⟩
      case measure => simp [intOf]; omega
    · obtain rfl : L = i := by omega
      have hx : ¬ (a : Int) < (m : Int) := by have h1 := HE.out; have h2 := hai.out; omega
      obtain ⟨a', c', hv⟩ := hO.out.shape
      rw [wayL_length] at hv
      subst hv
      go_wp2
      go_ret
      exact ⟨a', c', rfl, hO.out, hB.out⟩

set_option maxHeartbeats 4000000 in
theorem implWays_c (ao : Option Addr) (n c : Nat) (xs : List Ta) (long : Int) (w : World) (hx : xs.length = n) (hn : n ≤ 17592186044416) (hr : RdU w ao xs) (p : Nat) (hp : (waysV xs long).length = p) :
    Calls Try.prog 13 #[.slice ao n c, .int .i64 long] w fun e w' => ∃ a' c', e = .returned (.tuple #[.slice a' p c', .bool (waysOk xs long)]) ∧ OwnII w' w.heap.size (.slice a' p c') (waysV xs long) ∧ Below w.heap.size w w' := by
  obtain ⟨q, hq⟩ : ∃ q, (rankV xs).length = q := ⟨_, rfl⟩
  have q1 := implRank_c ao n c xs w hx hn hr q hq
  by_cases h : tasB xs = true ∧ inB long 1 4 = true
  case neg =>
    have e1 : waysOk xs long = false := by
      rw [Bool.eq_false_iff]; intro g; unfold waysOk at g; rw [Bool.and_eq_true] at g; exact h g
    have e2 : waysV xs long = [] := by unfold waysV; rw [e1]; rfl
    rw [e2] at hp ⊢
    obtain rfl : p = 0 := hp.symm
    rw [e1]
    have hno : tasB xs = false ∨ (tasB xs = true ∧ (long < 1 ∨ (¬ long < 1 ∧ long > 4))) := by
      cases ht : tasB xs
      · exact Or.inl rfl
      · refine Or.inr ⟨rfl, ?_⟩
        have : ¬ (1 ≤ long ∧ long ≤ 4) := fun g => h ⟨ht, decide_eq_true g⟩
        omega
    clear h e1 e2 hp hx hr hq
    generalize rankV xs = l at q1
    generalize tasB xs = fb at q1 hno
    rcases hno with rfl | ⟨rfl, hl | ⟨hl1, hl2⟩⟩
    · go_enter Try.func13, Try.ntmps13
      go_wp2_with fail
      refine q1.mono ?_
      clear q1
      rintro e w' ⟨a', c', rfl, _, hb⟩
      go_wp2
      refine bodyPost_ret (v := .tuple #[.slice none 0 0, .bool false]) (by simp [results, Try.results13, go_sem]; try rfl) rfl ?_
      exact ⟨none, 0, rfl, (OwnIR.nil _ _ 0).toS, hb⟩
    · go_enter Try.func13, Try.ntmps13
      go_wp2_with fail
      refine q1.mono ?_
      clear q1
      rintro e w' ⟨a', c', rfl, _, hb⟩
      go_wp2
      refine bodyPost_ret (v := .tuple #[.slice none 0 0, .bool false]) (by simp [results, Try.results13, go_sem]; try rfl) rfl ?_
      exact ⟨none, 0, rfl, (OwnIR.nil _ _ 0).toS, hb⟩
    · go_enter Try.func13, Try.ntmps13
      go_wp2_with fail
      refine q1.mono ?_
      clear q1
      rintro e w' ⟨a', c', rfl, _, hb⟩
      go_wp2
      refine bodyPost_ret (v := .tuple #[.slice none 0 0, .bool false]) (by simp [results, Try.results13, go_sem]; try rfl) rfl ?_
      exact ⟨none, 0, rfl, (OwnIR.nil _ _ 0).toS, hb⟩
  obtain ⟨ht, hlg⟩ := h
  have hlg2 : 1 ≤ long ∧ long ≤ 4 := of_decide_eq_true hlg
  have e1 : waysOk xs long = true := by unfold waysOk; rw [ht, hlg]; rfl
  have e2 : waysV xs long = waysL (rankL xs) long.toNat (xs.length / long.toNat) := by unfold waysV; rw [if_pos e1]
  have e3 : rankV xs = rankL xs := by unfold rankV; rw [if_pos ht]
  obtain ⟨_, _, hn1, hn2⟩ := tasB_all ht
  rw [hx] at hn1 hn2
  rw [e3, rankL_length, hx] at hq
  subst hq
  obtain ⟨L, rfl⟩ : ∃ L : Nat, long = (L : Int) := ⟨long.toNat, by omega⟩
  rw [e2, Int.toNat_natCast, hx] at hp ⊢
  rw [waysL_length] at hp
  rw [e1]
  rw [ht, e3] at q1
  have hd1 : (n : Int).tdiv (L : Int) = (p : Int) := by
    rw [Int.tdiv_eq_ediv_of_nonneg (by omega), ← hp]; rfl
  have hL0 : (L : Int) ≠ 0 := by omega
  have hl1 : ¬ (L : Int) < 1 := by omega
  have hl2 : ¬ (L : Int) > 4 := by omega
  have HRL : Hid ((rankL xs).length = n) := by show _ = _; rw [rankL_length, hx]
  rw [hp]
  have hpL : p * L ≤ n := by rw [← hp]; exact Nat.div_mul_le_self n L
  obtain ⟨m, hm⟩ : ∃ m, p * L = m := ⟨_, rfl⟩
  have hmn : m ≤ n := by omega
  have hmI : (p : Int) * (L : Int) = (m : Int) := by rw [← hm]; exact (Int.natCast_mul p L).symm
  have HM : Hid (m = p * L) := hm.symm
  have hpn : p ≤ 12 := by
    have : p ≤ p * L := Nat.le_mul_of_pos_right p (by omega)
    omega
  have hLL : L ≤ 4 := by omega
  clear e1 e2 e3 hp ht hlg hlg2 hx hr hm hpL
  generalize rankL xs = rk at q1 HRL ⊢
  go_enter Try.func13, Try.ntmps13
  go_wp2_with fail
  refine q1.mono ?_
  clear q1
  rintro e w1 ⟨a1, c1, rfl, ho, hb⟩
  have HO1 : Hid (Own w1 w.heap.size (.slice a1 n c1) rk) := ho
  have HB1 : Hid (Below w.heap.size w w1) := hb
  have hmc : m ≤ c1 := by have := ho.cap; omega
  clear ho hb
  go_wp2
  go_loopw [9, 31] (fun v kv wq => ∃ (k : Nat), k ≤ p ∧ kv = .int .i64 k ∧ Hid (OwnIR wq w1.heap.size wq.heap.size v ((waysL rk L p).take k)) ∧ Hid (Below w1.heap.size w1 wq)) (fun _ kv _ => p - (intOf kv).toNat)
  case atStart => exact ⟨0, Nat.zero_le _, rfl, OwnIR.nil _ _ _, Below.refl _ _⟩
  case round =>
    obtain ⟨k, hk, rfl, hO, hB⟩ := hrel
    by_cases hlt : k < p
    · have hk1 : (k : Int) < (p : Int) := by omega
      have HT : Hid ((waysL rk L p).take (k + 1) = (waysL rk L p).take k ++ [wayL rk L p k]) := waysL_take hlt
      have HTL : Hid (((waysL rk L p).take k).length = k) := by show _ = _; rw [List.length_take, waysL_length]; omega
      have HF : Hid (wayL (rk.take m) L p k = wayL rk L p k) := wayL_front HM.out hlt
      have HRk : Hid (Rd wr a1 (rk.take m)) := Rd.later (HO1.out.front m) (hB.out.mono (Nat.le_refl _))
      have HTm : Hid ((rk.take m).length = m) := by show _ = _; rw [List.length_take, HRL.out]; omega
      obtain ⟨av, cv, hv, _⟩ := hO.out.toS.rd
      rw [HTL.out] at hv
      subst hv
      generalize (waysL rk L p).take k = out at hO HT HTL
      have hmL : (p : Int) * (L : Int) = (m : Int) := hmI
      go_wp2_with fail
      refine (wayFrom_c a1 m c1 (rk.take m) k p L _ HTm.out HRk.out HM.out hlt hpn hLL (by omega)).mono ?_
      rintro e w5 ⟨a5, c5, rfl, ho5, hb5⟩
      rw [HF.out] at ho5
      obtain ⟨v', w6, r1, o6, b6, s6⟩ := appendII_run wr w5 w1.heap.size (.slice av k cv) (.slice a5 L c5) out (wayL rk L p k) hO.out hB.out.size hb5 ho5 (by rw [HTL.out]; omega)
      have HO6 : Hid (OwnIR w6 w1.heap.size w6.heap.size v' (out ++ [wayL rk L p k])) := o6
      have HB6 : Hid (Below w1.heap.size w1 w6) := hB.out.trans b6
      clear o6 b6 ho5 hb5
      go_wp2_with (at_builtin; refine Lib.wpList_append_run _ rfl _ _ _ _ rfl _ _ rfl rfl _ _ (r1 _) ?_; clear r1)
      go_roundw
      case rel => exact ⟨k + 1, by omega, by go_num, by show OwnIR _ _ _ _ _; rw [HT.out]; exact HO6.out, HB6⟩
      case measure => simp [intOf]; omega
    · obtain rfl : p = k := by omega
      have he : (waysL rk L p).take p = waysL rk L p := List.take_of_length_le (by rw [waysL_length]; exact Nat.le_refl _)
      rw [he] at hO
      obtain ⟨av, cv, hv, _⟩ := hO.out.toS.rd
      rw [waysL_length] at hv
      subst hv
      have hx : ¬ (p : Int) < (p : Int) := by omega
      go_wp2
      refine bodyPost_ret (v := .tuple #[.slice av p cv, .bool true]) (by simp [results, Try.results13, go_sem]; try rfl) rfl ?_
      exact ⟨av, cv, rfl, hO.out.toS.mono HB1.out.size, HB1.out.trans (hB.out.mono HB1.out.size)⟩

set_option maxHeartbeats 8000000 in
theorem specWays_c (ao : Option Addr) (n c : Nat) (xs : List Ta) (long : Int) (w : World) (hx : xs.length = n) (hn : n ≤ 17592186044416) (hr : RdU w ao xs) (p : Nat) (hp : (waysV xs long).length = p) :
    Calls Try.prog 14 #[.slice ao n c, .int .i64 long] w fun e w' => ∃ a' c', e = .returned (.tuple #[.slice a' p c', .bool (waysOk xs long)]) ∧ OwnII w' w.heap.size (.slice a' p c') (waysV xs long) ∧ Below w.heap.size w w' := by
  have q1 := specGoodT_c ao n c xs w hx hn hr
  have q2 := fun wx => l1In_c long 1 4 wx
  cases ht : tasB xs
  · have e1 : waysOk xs long = false := by unfold waysOk; rw [ht]; rfl
    have e2 : waysV xs long = [] := by unfold waysV; rw [e1]; rfl
    rw [e2] at hp ⊢
    obtain rfl : p = 0 := hp.symm
    rw [e1]
    rw [ht] at q1
    clear ht e1 e2 hp hx hr
    go_enter Try.func14, Try.ntmps14
    go_wp2_with fail
    refine q1.mono ?_
    clear q1
    rintro e w' ⟨rfl, hb⟩
    go_wp2
    refine bodyPost_ret (v := .tuple #[.slice none 0 0, .bool false]) (by simp [results, Try.results14, go_sem]; try rfl) rfl ?_
    exact ⟨none, 0, rfl, (OwnIR.nil _ _ 0).toS, hb⟩
  cases hlg : inB long 1 4
  · have e1 : waysOk xs long = false := by unfold waysOk; rw [ht, hlg]; rfl
    have e2 : waysV xs long = [] := by unfold waysV; rw [e1]; rfl
    rw [e2] at hp ⊢
    obtain rfl : p = 0 := hp.symm
    rw [e1]
    rw [ht] at q1
    rw [hlg] at q2
    clear ht hlg e1 e2 hp hx hr
    go_enter Try.func14, Try.ntmps14
    go_wp2_with fail
    refine q1.mono ?_
    clear q1
    rintro e w1 ⟨rfl, hb⟩
    go_wp2_with fail
    refine (q2 _).mono ?_
    rintro e w' ⟨rfl, hw⟩
    subst w'
    go_wp2
    refine bodyPost_ret (v := .tuple #[.slice none 0 0, .bool false]) (by simp [results, Try.results14, go_sem]; try rfl) rfl ?_
    exact ⟨none, 0, rfl, (OwnIR.nil _ _ 0).toS, hb⟩
  have hlg2 : 1 ≤ long ∧ long ≤ 4 := of_decide_eq_true hlg
  have e1 : waysOk xs long = true := by unfold waysOk; rw [ht, hlg]; rfl
  have e2 : waysV xs long = waysL (rankL xs) long.toNat (xs.length / long.toNat) := by unfold waysV; rw [if_pos e1]
  obtain ⟨_, hg, hn1, hn2⟩ := tasB_all ht
  rw [hx] at hn1 hn2
  obtain ⟨L, rfl⟩ : ∃ L : Nat, long = (L : Int) := ⟨long.toNat, by omega⟩
  rw [e2, Int.toNat_natCast, hx] at hp ⊢
  rw [waysL_length] at hp
  rw [e1]
  rw [ht] at q1
  rw [hlg] at q2
  have hd1 : (n : Int).tdiv (L : Int) = (p : Int) := by
    rw [Int.tdiv_eq_ediv_of_nonneg (by omega), ← hp]; rfl
  have hL0 : (L : Int) ≠ 0 := by omega
  have HRL : Hid ((rankL xs).length = n) := by show _ = _; rw [rankL_length, hx]
  rw [hp]
  have hpL : p * L ≤ n := by rw [← hp]; exact Nat.div_mul_le_self n L
  have HPL : Hid (p * L ≤ n) := hpL
  have hpn : p ≤ 12 := by
    have : p ≤ p * L := Nat.le_mul_of_pos_right p (by omega)
    omega
  have hLL : L ≤ 4 := by omega
  have HR : Hid (RdU w ao xs) := hr
  have HX : Hid (xs.length = n) := hx
  have q3 := fun wx h => l14Rank_c ao n c xs wx hx hn2 hg h
  clear e1 e2 hp ht hlg hlg2 hx hr hpL hg
  generalize rankL xs = rk at q3 HRL ⊢
  have HQ3 : Hid (∀ wx, RdU wx ao xs → Calls Try.prog 64 #[.slice ao n c] wx fun e w' => ∃ a' c', e = .returned (.slice a' n c') ∧ Own w' wx.heap.size (.slice a' n c') rk ∧ Below wx.heap.size wx w') := q3
  clear q3
  go_enter Try.func14, Try.ntmps14
  go_wp2_with fail
  refine q1.mono ?_
  clear q1
  rintro e w0 ⟨rfl, hb⟩
  have HB0 : Hid (Below w.heap.size w w0) := hb
  clear hb
  go_wp2_with fail
  refine (q2 _).mono ?_
  rintro e w' ⟨rfl, hw⟩
  subst w'
  clear q2
  go_wp2_with fail
  refine (HQ3.out _ (HR.out.later HB0.out)).mono ?_
  rintro e w1 ⟨a1, c1, rfl, ho, hb⟩
  have HO1 : Hid (Own w1 w.heap.size (.slice a1 n c1) rk) := ho.mono HB0.out.size
  have HB1 : Hid (Below w.heap.size w w1) := HB0.out.trans (hb.mono HB0.out.size)
  clear ho hb HX HR HB0
  go_wp2
  go_loopw [8, 9] (fun v kv wq => ∃ (k : Nat), k ≤ p ∧ kv = .int .i64 k ∧ Hid (OwnIR wq w1.heap.size wq.heap.size v ((waysL rk L p).take k)) ∧ Hid (Below w1.heap.size w1 wq)) (fun _ kv _ => p - (intOf kv).toNat)
  case atStart => exact ⟨0, Nat.zero_le _, rfl, OwnIR.nil _ _ _, Below.refl _ _⟩
  case round =>
    obtain ⟨k, hk, rfl, hO, hB⟩ := hrel
    obtain ⟨wo, hwo⟩ : ∃ Y, Y = wr := ⟨_, rfl⟩
    subst hwo
    by_cases hlt : k < p
    · have hk1 : (k : Int) < (p : Int) := by omega
      have HT : Hid ((waysL rk L p).take (k + 1) = (waysL rk L p).take k ++ [wayL rk L p k]) := waysL_take hlt
      have HTL : Hid (((waysL rk L p).take k).length = k) := by show _ = _; rw [List.length_take, waysL_length]; omega
      have HRk : Hid (Rd wo a1 rk) := Rd.later HO1.out.rd'.2 (hB.out.mono (Nat.le_refl _))
      have HLT : Hid (∀ i, i < L → k + i * p < n) := fun i hi => by have := way_lt hlt hi; have := HPL.out; omega
      obtain ⟨av, cv, hv, _⟩ := hO.out.toS.rd
      rw [HTL.out] at hv
      subst hv
      generalize (waysL rk L p).take k = out at hO HT HTL
      go_wp2
      go_loopw [10, 11] (fun v iv wq => ∃ (i : Nat), i ≤ L ∧ iv = .int .i64 i ∧ Hid (Own wq wo.heap.size v (wayL rk i p k)) ∧ Hid (Below wo.heap.size wo wq)) (fun _ iv _ => L - (intOf iv).toNat)
      case atStart => exact ⟨0, Nat.zero_le _, rfl, own_nilI _ _, Below.refl _ _⟩
      case round =>
        obtain ⟨i, hi, rfl, hOw, hBw⟩ := hrel
        by_cases hil : i < L
        · have hi1 : (i : Int) < (L : Int) := by omega
          have ham := HLT.out i hil
          have haz : k + i * p < rk.length := by rw [HRL.out]; exact ham
          obtain ⟨a, ha⟩ : ∃ a, k + i * p = a := ⟨_, rfl⟩
          obtain ⟨ip, hip⟩ : ∃ ip, i * p = ip := ⟨_, rfl⟩
          have hipI : (i : Int) * (p : Int) = (ip : Int) := by rw [← hip]; exact (Int.natCast_mul i p).symm
          have hip12 : ip ≤ 12 := by omega
          have HS : Hid (wayL rk (i + 1) p k = wayL rk i p k ++ [rk.getD a 0]) := by show _ = _; rw [wayL_succ, ha]
          have HLn : Hid ((wayL rk i p k).length = i) := wayL_length _ _ _ _
          rw [ha] at ham haz
          obtain ⟨b, o, hoa, g0⟩ := (Rd.later HRk.out hBw.out).get haz
          subst hoa
          have haI : (k : Int) + (ip : Int) = (a : Int) := by omega
          have hz1 : (a : Int) < (n : Int) := by omega
          have hz0 : (0 : Int) ≤ (a : Int) := by omega
          generalize wayL rk i p k = wy at hOw HS HLn
          generalize rk.getD a 0 = x0 at g0 HS
          obtain ⟨a', c', hv⟩ := hOw.out.shape
          rw [HLn.out] at hv
          subst hv
          have bA := balloc wr (.cells #[.int .i64 x0] 3)
          obtain ⟨v', w5, r1, o5, g5, b5⟩ := appendI_run (wr.alloc (.cells #[.int .i64 x0] 3)) wo.heap.size (.slice a' i c') wy [x0] (some ⟨wr.heap.size, 0, none⟩) 1 1 (hOw.out.later bA) (litI wr _) rfl (fun h => by cases h) (by rw [HLn.out]; omega) (by have := hBw.out.size; have := bA.size; omega)
          have HO5 : Hid (Own w5 wo.heap.size v' (wy ++ [x0])) := o5
          have HB5 : Hid (Below wo.heap.size wo w5) := (hBw.out.trans (bA.mono hBw.out.size)).trans b5
          clear bA o5 g5 b5 hOw hBw haz ha hip
          go_wp2_with (at_builtin; refine Lib.wpList_append_run _ rfl _ _ _ _ rfl _ _ rfl rfl _ _ (r1 _) ?_; clear r1)
          go_roundw
          case rel => exact ⟨i + 1, by omega, by go_num, by show Own _ _ _ _; rw [HS.out]; exact HO5.out, HB5⟩
          case measure => simp [intOf]; omega
        · obtain rfl : L = i := by omega
          have hx : ¬ (L : Int) < (L : Int) := by omega
          obtain ⟨a5, c5, hv⟩ := hOw.out.shape
          rw [wayL_length] at hv
          subst hv
          obtain ⟨v', w6, r1, o6, b6, s6⟩ := appendII_run wo wr w1.heap.size (.slice av k cv) (.slice a5 L c5) out (wayL rk L p k) hO.out hB.out.size hBw.out hOw.out (by rw [HTL.out]; omega)
          have HO6 : Hid (OwnIR w6 w1.heap.size w6.heap.size v' (out ++ [wayL rk L p k])) := o6
          have HB6 : Hid (Below w1.heap.size w1 w6) := hB.out.trans b6
          clear o6 b6
          go_wp2_with (at_builtin; refine Lib.wpList_append_run _ rfl _ _ _ _ rfl _ _ rfl rfl _ _ (r1 _) ?_; clear r1)
          go_roundw
          case rel => exact ⟨k + 1, by omega, by go_num, by show OwnIR _ _ _ _ _; rw [HT.out]; exact HO6.out, HB6⟩
          case measure => simp [intOf]; omega
    · obtain rfl : p = k := by omega
      have he : (waysL rk L p).take p = waysL rk L p := List.take_of_length_le (by rw [waysL_length]; exact Nat.le_refl _)
      rw [he] at hO
      obtain ⟨av, cv, hv, _⟩ := hO.out.toS.rd
      rw [waysL_length] at hv
      subst hv
      have hx : ¬ (p : Int) < (p : Int) := by omega
      go_wp2
      refine bodyPost_ret (v := .tuple #[.slice av p cv, .bool true]) (by simp [results, Try.results14, go_sem]; try rfl) rfl ?_
      exact ⟨av, cv, rfl, hO.out.toS.mono HB1.out.size, HB1.out.trans (hB.out.mono HB1.out.size)⟩

end Go.Proofs.Ytleddlfojogdiaa
