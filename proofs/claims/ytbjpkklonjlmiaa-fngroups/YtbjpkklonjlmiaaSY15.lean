/- Chapter 15: slices.symMergeCmpFunc at steps. -/
import Derived.Test.YtbjpkklonjlmiaaP15S
namespace Go.Proofs.Ytbjpkklonjlmiaa
set_option linter.unusedVariables false
set_option maxRecDepth 1000000
set_option linter.unusedSimpArgs false
open Go.RowKit Go.Sort Go.Shelf Go.Lib

set_option maxHeartbeats 16000000 in
set_option maxRecDepth 1000000 in
theorem symMerge_c (k : Nat) (hk3 : k = 3) (enc : Stp → List Value) (g cap N : Nat) (d0 : Array Stp) (w0 : World) (hN : d0.size = N) (hN1 : N ≤ 1000) (R : RowK enc k w0 g 0 d0) (hcmp : CmpLays Try.prog 66 #[] enc k cmpQ g 0 d0.size w0) :
    ∀ (F a m b : Nat) (d : Array Stp) (w : World), b - a ≤ F → d.size = N → a < m → m < b → b ≤ N → Srt d a m → Srt d m b → SWK enc k w0 g 0 d w →
    Calls Try.prog 79 #[.slice (some ⟨g, 0, none⟩) N cap, .int .i64 a, .int .i64 m, .int .i64 b, .func (.func 66) #[] #[]] w fun e w' => e = .returned (.tuple #[]) ∧ ∃ d', SWK enc k w0 g 0 d' w' ∧ Mrg d d' a b := by
  intro F
  induction F with
  | zero => intro a m b d w h0 h1 h2 h3; omega
  | succ F ih =>
    intro a m b d w hF hd ham hmb hbN hA hB hS
    have HC : Aside (CmpLays Try.prog 66 #[] enc k cmpQ g 0 d0.size w0) := hcmp
    have RR : Aside (RowK enc k w0 g 0 d0) := R
    have HN : Hid (d0.size = N) := hN
    have S0 : Aside (SWK enc k w0 g 0 d w) := hS
    have HA : Hid (Srt d a m) := hA
    have HB : Hid (Srt d m b) := hB
    have IH : Hid (∀ (a m b : Nat) (d : Array Stp) (w : World), b - a ≤ F → d.size = N → a < m → m < b → b ≤ N → Srt d a m → Srt d m b → SWK enc k w0 g 0 d w → Calls Try.prog 79 #[.slice (some ⟨g, 0, none⟩) N cap, .int .i64 a, .int .i64 m, .int .i64 b, .func (.func 66) #[] #[]] w fun e w' => e = .returned (.tuple #[]) ∧ ∃ d', SWK enc k w0 g 0 d' w' ∧ Mrg d d' a b) := ih
    have HR : Hid (∀ (a m b : Nat) (d : Array Stp) (w : World), d.size = N → a < m → m < b → b ≤ N → SWK enc k w0 g 0 d w → Calls Try.prog 82 #[.slice (some ⟨g, 0, none⟩) N cap, .int .i64 a, .int .i64 m, .int .i64 b, .func (.func 66) #[] #[]] w fun e w' => e = .returned (.tuple #[]) ∧ ∃ d', SWK enc k w0 g 0 d' w' ∧ d'.size = N ∧ d'.toList.Perm d.toList ∧ ∀ x, d'[x]! = rotD d a m b x) := fun a m b d w h1 h2 h3 h4 h5 => by
      have := rotate_c k hk3 enc g cap a m b d0 d w0 w R (by omega) h5 h2 h3 (by omega) (by omega) (.func (.func 66) #[] #[])
      rw [h1] at this
      exact this
    have mixed : Try.prog.follows .mixedOrders = true := by kernel_rfl
    have t3 : Try.prog.underlying 3 = some (TypeDesc.int IntKind.i64) := by kernel_rfl
    have a3 : ∀ w, (isAgg 3).run Try.prog w = .ok false w := fun _ => by kernel_rfl
    have z3 : ∀ w, (Go.sizeOf 3).run Try.prog w = .ok 1 w := fun _ => by kernel_rfl
    have v3 : ∀ w, (zeroValue 3).run Try.prog w = .ok (Value.int IntKind.i64 0) w := fun _ => by kernel_rfl
    have t4 : Try.prog.underlying 4 = some TypeDesc.bool := by kernel_rfl
    have a4 : ∀ w, (isAgg 4).run Try.prog w = .ok false w := fun _ => by kernel_rfl
    have z4 : ∀ w, (Go.sizeOf 4).run Try.prog w = .ok 1 w := fun _ => by kernel_rfl
    have t22 : Try.prog.underlying 68 = some (TypeDesc.slice 78) := by kernel_rfl
    have a22 : ∀ w, (isAgg 68).run Try.prog w = .ok false w := fun _ => by kernel_rfl
    have z22 : ∀ w, (Go.sizeOf 68).run Try.prog w = .ok 1 w := fun _ => by kernel_rfl
    have u22 := run_underlying t22
    have aE : ∀ w, (isAgg 78).run Try.prog w = .ok true w := fun _ => by kernel_rfl
    have zE : ∀ w, (Go.sizeOf 78).run Try.prog w = .ok k w := fun _ => by subst hk3; kernel_rfl
    have tu : Try.prog.underlying 93 = some (TypeDesc.int IntKind.u64) := by kernel_rfl
    have au : ∀ w, (isAgg 93).run Try.prog w = .ok false w := fun _ => by kernel_rfl
    have zu : ∀ w, (Go.sizeOf 93).run Try.prog w = .ok 1 w := fun _ => by kernel_rfl
    have ec : ∀ args w, (callFunc 66 args).run Try.prog w = .ok (.enter 66 args) w := enters_of Try.func66 (by kernel_rfl) rfl
    have er : ∀ args w, (callFunc 82 args).run Try.prog w = .ok (.enter 82 args) w := enters_of Try.func82 (by kernel_rfl) rfl
    have es : ∀ args w, (callFunc 79 args).run Try.prog w = .ok (.enter 79 args) w := enters_of Try.func79 (by kernel_rfl) rfl
    clear hcmp R hN hS hA hB ih
    go_enter Try.func79, Try.ntmps79
    generalize Try.prog = P at HC IH HR mixed t3 a3 z3 v3 t4 a4 z4 t22 a22 z22 u22 aE zE tu au zu ec er es ⊢
    clear hk3
    by_cases c1 : a + 1 = m
    · have HM1 : Hid (a + 1 = m) := c1
      have c1z : ((m : Int) - (a : Int) == 1) = true := by simp; omega
      go_wp2_with fail
      go_loopg [10, 11] (b - m) (fun kx iv jv wr => ∃ i j : Nat, iv = .int .i64 i ∧ jv = .int .i64 j ∧ m ≤ i ∧ i ≤ j ∧ j ≤ b ∧ j - i ≤ kx ∧ Aside (SWK enc k w0 g 0 d wr) ∧ Hid ((∀ x, m ≤ x → x < i → ky d x < ky d a) ∧ ∀ x, j ≤ x → x < b → ky d a ≤ ky d x))
      case atStart => exact ⟨m, b, rfl, rfl, Nat.le_refl _, by omega, Nat.le_refl _, Nat.le_refl _, S0, ⟨fun x h h2 => by omega, fun x h h2 => by omega⟩⟩
      case round =>
        clear S0
        obtain ⟨i, j, rfl, rfl, hi, hij, hjb, hkx, S1, HP⟩ := hrel
        by_cases hlt : i < j
        · have ltz : (i : Int) < (j : Int) := by omega
          obtain ⟨M, hM⟩ : ∃ M : Nat, (i + j) / 2 = M := ⟨_, rfl⟩
          have hMi : ((i : Int) + (j : Int)) / 2 = (M : Int) := by omega
          have m0 : i ≤ M := by omega
          have m1 : M < j := by omega
          by_cases hle : ky d M < ky d a
          · have HL : Hid (ky d M < ky d a) := hle
            clear hle
            have ea1 : ((M : Int)).toNat = M := by omega
            have pa1 : (0 : Int) ≤ (M : Int) := by omega
            have ba1 : (M : Int) < (N : Int) := by omega
            have ra1 : IntKind.i64.wrap ((M : Int)) = (M : Int) := by rw [IntKind.wrap_i64]; omega
            have ec1 : ((a : Int)).toNat = a := by omega
            have pc1 : (0 : Int) ≤ (a : Int) := by omega
            have bc1 : (a : Int) < (N : Int) := by omega
            have rc1 : IntKind.i64.wrap ((a : Int)) = (a : Int) := by rw [IntKind.wrap_i64]; omega
            obtain ⟨x1, hx1⟩ : ∃ x, x = d[M]! := ⟨_, rfl⟩
            obtain ⟨y1, hy1⟩ : ∃ x, x = d[a]! := ⟨_, rfl⟩
            have l1a := S1.out.ld RR.out (by have := HN.out; omega) P (M) (by omega)
            have l1b := S1.out.ld RR.out (by have := HN.out; omega) P (a) (by omega)
            simp only [Nat.zero_add] at l1a l1b
            rw [← hx1] at l1a
            rw [← hy1] at l1b
            have hc1 := S1.out.cmp HC.out (by have := HN.out; omega) x1 y1
            have hv1 : cmpQ x1 y1 < 0 := by rw [hx1, hy1, ltQ]; exact HL.out
            have hd1 : decide (cmpQ x1 y1 < 0) = true := decide_eq_true hv1
            generalize cmpQ x1 y1 = r1 at hc1 hv1 hd1
            clear hx1 hy1
            go_wp2_with fail
            go_quiet_grown (first | (go_at_fn 66; refine Calls.grown_of (hc1 _ _)))
            have S2 : Aside (SWK enc k w0 g 0 d (grow (wr.drewN nq) osq)) := S1.out.grown nq osq
            clear l1a l1b hc1 S1
            generalize grow (wr.drewN nq) osq = w2 at S2 ⊢
            clear nq osq
            go_wp2
            go_roundg (j - (M + 1))
            case measure => omega
            case rel => exact ⟨M + 1, j, by go_num, rfl, by omega, by omega, hjb, Nat.le_refl _, S2, ⟨fun x h h2 => Int.lt_of_le_of_lt (HB.out x M h (by omega) (by omega)) HL.out, HP.out.2⟩⟩
          · have HL : Hid (ky d a ≤ ky d M) := Int.not_lt.1 hle
            clear hle
            have ea2 : ((M : Int)).toNat = M := by omega
            have pa2 : (0 : Int) ≤ (M : Int) := by omega
            have ba2 : (M : Int) < (N : Int) := by omega
            have ra2 : IntKind.i64.wrap ((M : Int)) = (M : Int) := by rw [IntKind.wrap_i64]; omega
            have ec2 : ((a : Int)).toNat = a := by omega
            have pc2 : (0 : Int) ≤ (a : Int) := by omega
            have bc2 : (a : Int) < (N : Int) := by omega
            have rc2 : IntKind.i64.wrap ((a : Int)) = (a : Int) := by rw [IntKind.wrap_i64]; omega
            obtain ⟨x2, hx2⟩ : ∃ x, x = d[M]! := ⟨_, rfl⟩
            obtain ⟨y2, hy2⟩ : ∃ x, x = d[a]! := ⟨_, rfl⟩
            have l2a := S1.out.ld RR.out (by have := HN.out; omega) P (M) (by omega)
            have l2b := S1.out.ld RR.out (by have := HN.out; omega) P (a) (by omega)
            simp only [Nat.zero_add] at l2a l2b
            rw [← hx2] at l2a
            rw [← hy2] at l2b
            have hc2 := S1.out.cmp HC.out (by have := HN.out; omega) x2 y2
            have hv2 : ¬ cmpQ x2 y2 < 0 := by rw [hx2, hy2, ltQ]; exact Int.not_lt.2 HL.out
            have hd2 : decide (cmpQ x2 y2 < 0) = false := decide_eq_false hv2
            generalize cmpQ x2 y2 = r2 at hc2 hv2 hd2
            clear hx2 hy2
            go_wp2_with fail
            go_quiet_grown (first | (go_at_fn 66; refine Calls.grown_of (hc2 _ _)))
            have S2 : Aside (SWK enc k w0 g 0 d (grow (wr.drewN nq) osq)) := S1.out.grown nq osq
            clear l2a l2b hc2 S1
            generalize grow (wr.drewN nq) osq = w2 at S2 ⊢
            clear nq osq
            go_wp2
            go_roundg (M - i)
            case measure => omega
            case rel => exact ⟨i, M, rfl, by go_num, hi, m0, by omega, Nat.le_refl _, S2, ⟨HP.out.1, fun x h h2 => Int.le_trans HL.out (HB.out M x (by omega) h h2)⟩⟩
        · have ltz : ¬ (i : Int) < (j : Int) := by omega
          obtain rfl : i = j := by omega
          have MU : Hid (∀ dk : Array Stp, dk.size = d.size → dk.toList.Perm d.toList → (∀ x, dk[x]! = if a ≤ x ∧ x < i - 1 then d[x + 1]! else if x = i - 1 then d[a]! else d[x]!) → Mrg d dk a b) := fun dk h1 h2 h3 => by
            have e := HM1.out
            subst e
            exact mrg_up h1 h2 hi hjb HB.out HP.out.1 HP.out.2 h3
          go_wp2
          go_loopg [13] (i - 1 - a) (fun kx kv wr2 => ∃ (q : Nat) (dk : Array Stp), kv = .int .i64 q ∧ a ≤ q ∧ q ≤ i - 1 ∧ i - 1 - q ≤ kx ∧ dk.size = N ∧ Aside (SWK enc k w0 g 0 dk wr2) ∧ Hid (dk.toList.Perm d.toList ∧ ∀ x, dk[x]! = if a ≤ x ∧ x < q then d[x + 1]! else if x = q then d[a]! else d[x]!))
          case atStart => exact ⟨a, d, rfl, Nat.le_refl _, by omega, Nat.le_refl _, hd, S1, ⟨List.Perm.refl _, fun x => by rw [if_neg (by omega)]; split; exact (by rename_i e; rw [e]); rfl⟩⟩
          case round =>
            clear S1
            obtain ⟨q, dk, rfl, hq1, hq2, hkx2, hdk, S1, HD⟩ := hrel
            by_cases hq : q < i - 1
            · have qz : (q : Int) < (i : Int) - 1 := by omega
              have ea3 : ((q : Int)).toNat = q := by omega
              have pa3 : (0 : Int) ≤ (q : Int) := by omega
              have ba3 : (q : Int) < (N : Int) := by omega
              have ra3 : IntKind.i64.wrap ((q : Int)) = (q : Int) := by rw [IntKind.wrap_i64]; omega
              have ec3 : ((q : Int) + 1).toNat = q + 1 := by omega
              have pc3 : (0 : Int) ≤ (q : Int) + 1 := by omega
              have bc3 : (q : Int) + 1 < (N : Int) := by omega
              have rc3 : IntKind.i64.wrap ((q : Int) + 1) = (q : Int) + 1 := by rw [IntKind.wrap_i64]; omega
              have S2 : Aside (SWK enc k w0 g 0 (swp dk (q) (q + 1)) ((wr.drew.setCells g (0 + (q) * k) (enc dk[q + 1]!)).setCells g (0 + (q + 1) * k) (enc dk[q]!))) := S1.out.swapped RR.out (q) (q + 1) (by omega) (by omega)
              have l3a := S1.out.ld1 RR.out (by have := HN.out; omega) P (q) (by omega)
              have l3b := S1.out.ld1 RR.out (by have := HN.out; omega) P (q + 1) (by omega)
              have s3a := S1.out.st1 RR.out (by have := HN.out; omega) P (q) (by omega) dk[q + 1]!
              have s3b := S1.out.st2 RR.out (by have := HN.out; omega) P (q) (q + 1) (by omega) (by omega) dk[q + 1]! dk[q]!
              have n3a : (enc dk[q]!).length = k := RR.out.hk _
              have n3b : (enc dk[q + 1]!).length = k := RR.out.hk _
              generalize enc dk[q]! = cI3 at S2 l3a s3b n3a
              generalize enc dk[q + 1]! = cJ3 at S2 l3b s3a s3b n3b
              rw [Nat.zero_add] at l3a l3b s3a
              rw [Nat.zero_add, Nat.zero_add] at s3b S2
              clear S1
              go_wp2_with fail
              go_big_region_o
              clear l3a l3b s3a s3b
              generalize (wr.drew.setCells g ((q) * k) cJ3).setCells g ((q + 1) * k) cI3 = w3 at S2 ⊢
              go_wp2
              go_roundg (i - 1 - (q + 1))
              case measure => omega
              case rel =>
                refine ⟨q + 1, swp dk q (q + 1), by simp, by omega, by omega, Nat.le_refl _, by rw [size_swp]; exact hdk, S2, ⟨(swp_perm dk (by omega) (by omega)).trans HD.out.1, fun x => ?_⟩⟩
                rw [swp_get dk (i := q) (j := q + 1) (by omega) (by omega)]
                by_cases e1 : x = q + 1
                · subst e1
                  rw [if_pos rfl, HD.out.2 q, if_neg (by omega), if_pos rfl, if_neg (by omega), if_pos rfl]
                · rw [if_neg e1]
                  by_cases e2 : x = q
                  · subst e2
                    rw [if_pos rfl, HD.out.2 (x + 1), if_neg (by omega), if_neg (by omega), if_pos (by omega)]
                  · rw [if_neg e2, HD.out.2 x, if_neg e2, if_neg e1]
                    by_cases e3 : a ≤ x ∧ x < q
                    · rw [if_pos e3, if_pos (show a ≤ x ∧ x < q + 1 by omega)]
                    · rw [if_neg e3, if_neg (show ¬ (a ≤ x ∧ x < q + 1) by omega)]
            · have qz : ¬ (q : Int) < (i : Int) - 1 := by omega
              have hqe : q = i - 1 := by omega
              have HD2 := HD.out.2
              rw [hqe] at HD2
              have HE : Hid (Mrg d dk a b) := MU.out dk (by omega) HD.out.1 HD2
              clear hqe HD2
              go_wp2
              (try simp only [Exit.inBlock, Exit.then]); refine bodyPost_ret (results_none rfl _ _ _) rfl ?_
              exact ⟨rfl, dk, S1.out, HE.out⟩
    · have c1z : ((m : Int) - (a : Int) == 1) = false := by simp; omega
      by_cases c2 : m + 1 = b
      · have HM1 : Hid (m + 1 = b) := c2
        have c2z : ((b : Int) - (m : Int) == 1) = true := by simp; omega
        go_wp2_with fail
        go_loopg [14, 15] (m - a) (fun kx iv jv wr => ∃ i j : Nat, iv = .int .i64 i ∧ jv = .int .i64 j ∧ a ≤ i ∧ i ≤ j ∧ j ≤ m ∧ j - i ≤ kx ∧ Aside (SWK enc k w0 g 0 d wr) ∧ Hid ((∀ x, a ≤ x → x < i → ky d x ≤ ky d m) ∧ ∀ x, j ≤ x → x < m → ky d m < ky d x))
        case atStart => exact ⟨a, m, rfl, rfl, Nat.le_refl _, by omega, Nat.le_refl _, Nat.le_refl _, S0, ⟨fun x h h2 => by omega, fun x h h2 => by omega⟩⟩
        case round =>
          clear S0
          obtain ⟨i, j, rfl, rfl, hi, hij, hjb, hkx, S1, HP⟩ := hrel
          by_cases hlt : i < j
          · have ltz : (i : Int) < (j : Int) := by omega
            obtain ⟨M, hM⟩ : ∃ M : Nat, (i + j) / 2 = M := ⟨_, rfl⟩
            have hMi : ((i : Int) + (j : Int)) / 2 = (M : Int) := by omega
            have m0 : i ≤ M := by omega
            have m1 : M < j := by omega
            by_cases hle : ky d m < ky d M
            · have HL : Hid (ky d m < ky d M) := hle
              clear hle
              have ea4 : ((m : Int)).toNat = m := by omega
              have pa4 : (0 : Int) ≤ (m : Int) := by omega
              have ba4 : (m : Int) < (N : Int) := by omega
              have ra4 : IntKind.i64.wrap ((m : Int)) = (m : Int) := by rw [IntKind.wrap_i64]; omega
              have ec4 : ((M : Int)).toNat = M := by omega
              have pc4 : (0 : Int) ≤ (M : Int) := by omega
              have bc4 : (M : Int) < (N : Int) := by omega
              have rc4 : IntKind.i64.wrap ((M : Int)) = (M : Int) := by rw [IntKind.wrap_i64]; omega
              obtain ⟨x4, hx4⟩ : ∃ x, x = d[m]! := ⟨_, rfl⟩
              obtain ⟨y4, hy4⟩ : ∃ x, x = d[M]! := ⟨_, rfl⟩
              have l4a := S1.out.ld RR.out (by have := HN.out; omega) P (m) (by omega)
              have l4b := S1.out.ld RR.out (by have := HN.out; omega) P (M) (by omega)
              simp only [Nat.zero_add] at l4a l4b
              rw [← hx4] at l4a
              rw [← hy4] at l4b
              have hc4 := S1.out.cmp HC.out (by have := HN.out; omega) x4 y4
              have hv4 : cmpQ x4 y4 < 0 := by rw [hx4, hy4, ltQ]; exact HL.out
              have hd4 : decide (cmpQ x4 y4 < 0) = true := decide_eq_true hv4
              generalize cmpQ x4 y4 = r4 at hc4 hv4 hd4
              clear hx4 hy4
              go_wp2_with fail
              go_quiet_grown (first | (go_at_fn 66; refine Calls.grown_of (hc4 _ _)))
              have S2 : Aside (SWK enc k w0 g 0 d (grow (wr.drewN nq) osq)) := S1.out.grown nq osq
              clear l4a l4b hc4 S1
              generalize grow (wr.drewN nq) osq = w2 at S2 ⊢
              clear nq osq
              go_wp2
              go_roundg (M - i)
              case measure => omega
              case rel => exact ⟨i, M, rfl, by go_num, hi, m0, by omega, Nat.le_refl _, S2, ⟨HP.out.1, fun x h h2 => Int.lt_of_lt_of_le HL.out (HA.out M x (by omega) h h2)⟩⟩
            · have HL : Hid (ky d M ≤ ky d m) := Int.not_lt.1 hle
              clear hle
              have ea5 : ((m : Int)).toNat = m := by omega
              have pa5 : (0 : Int) ≤ (m : Int) := by omega
              have ba5 : (m : Int) < (N : Int) := by omega
              have ra5 : IntKind.i64.wrap ((m : Int)) = (m : Int) := by rw [IntKind.wrap_i64]; omega
              have ec5 : ((M : Int)).toNat = M := by omega
              have pc5 : (0 : Int) ≤ (M : Int) := by omega
              have bc5 : (M : Int) < (N : Int) := by omega
              have rc5 : IntKind.i64.wrap ((M : Int)) = (M : Int) := by rw [IntKind.wrap_i64]; omega
              obtain ⟨x5, hx5⟩ : ∃ x, x = d[m]! := ⟨_, rfl⟩
              obtain ⟨y5, hy5⟩ : ∃ x, x = d[M]! := ⟨_, rfl⟩
              have l5a := S1.out.ld RR.out (by have := HN.out; omega) P (m) (by omega)
              have l5b := S1.out.ld RR.out (by have := HN.out; omega) P (M) (by omega)
              simp only [Nat.zero_add] at l5a l5b
              rw [← hx5] at l5a
              rw [← hy5] at l5b
              have hc5 := S1.out.cmp HC.out (by have := HN.out; omega) x5 y5
              have hv5 : ¬ cmpQ x5 y5 < 0 := by rw [hx5, hy5, ltQ]; exact Int.not_lt.2 HL.out
              have hd5 : decide (cmpQ x5 y5 < 0) = false := decide_eq_false hv5
              generalize cmpQ x5 y5 = r5 at hc5 hv5 hd5
              clear hx5 hy5
              go_wp2_with fail
              go_quiet_grown (first | (go_at_fn 66; refine Calls.grown_of (hc5 _ _)))
              have S2 : Aside (SWK enc k w0 g 0 d (grow (wr.drewN nq) osq)) := S1.out.grown nq osq
              clear l5a l5b hc5 S1
              generalize grow (wr.drewN nq) osq = w2 at S2 ⊢
              clear nq osq
              go_wp2
              go_roundg (j - (M + 1))
              case measure => omega
              case rel => exact ⟨M + 1, j, by go_num, rfl, by omega, by omega, hjb, Nat.le_refl _, S2, ⟨fun x h h2 => Int.le_trans (HA.out x M h (by omega) (by omega)) HL.out, HP.out.2⟩⟩
          · have ltz : ¬ (i : Int) < (j : Int) := by omega
            obtain rfl : i = j := by omega
            have MU : Hid (∀ dk : Array Stp, dk.size = d.size → dk.toList.Perm d.toList → (∀ x, dk[x]! = if i < x ∧ x ≤ m then d[x - 1]! else if x = i then d[m]! else d[x]!) → Mrg d dk a b) := fun dk h1 h2 h3 => by
              have e := HM1.out
              subst e
              exact mrg_down h1 h2 hi hjb HA.out HP.out.1 HP.out.2 h3
            go_wp2
            go_loopg [17] (m - i) (fun kx kv wr2 => ∃ (q : Nat) (dk : Array Stp), kv = .int .i64 q ∧ i ≤ q ∧ q ≤ m ∧ q - i ≤ kx ∧ dk.size = N ∧ Aside (SWK enc k w0 g 0 dk wr2) ∧ Hid (dk.toList.Perm d.toList ∧ ∀ x, dk[x]! = if q < x ∧ x ≤ m then d[x - 1]! else if x = q then d[m]! else d[x]!))
            case atStart => exact ⟨m, d, rfl, by omega, Nat.le_refl _, Nat.le_refl _, hd, S1, ⟨List.Perm.refl _, fun x => by rw [if_neg (by omega)]; split; exact (by rename_i e; rw [e]); rfl⟩⟩
            case round =>
              clear S1
              obtain ⟨q, dk, rfl, hq1, hq2, hkx2, hdk, S1, HD⟩ := hrel
              by_cases hq : i < q
              · have qz : (i : Int) < (q : Int) := by omega
                have hq0 : 1 ≤ q := by omega
                have ea6 : ((q : Int)).toNat = q := by omega
                have pa6 : (0 : Int) ≤ (q : Int) := by omega
                have ba6 : (q : Int) < (N : Int) := by omega
                have ra6 : IntKind.i64.wrap ((q : Int)) = (q : Int) := by rw [IntKind.wrap_i64]; omega
                have ec6 : ((q : Int) - 1).toNat = q - 1 := by omega
                have pc6 : (0 : Int) ≤ (q : Int) - 1 := by omega
                have bc6 : (q : Int) - 1 < (N : Int) := by omega
                have rc6 : IntKind.i64.wrap ((q : Int) - 1) = (q : Int) - 1 := by rw [IntKind.wrap_i64]; omega
                have S2 : Aside (SWK enc k w0 g 0 (swp dk (q) (q - 1)) ((wr.drew.setCells g (0 + (q) * k) (enc dk[q - 1]!)).setCells g (0 + (q - 1) * k) (enc dk[q]!))) := S1.out.swapped RR.out (q) (q - 1) (by omega) (by omega)
                have l6a := S1.out.ld1 RR.out (by have := HN.out; omega) P (q) (by omega)
                have l6b := S1.out.ld1 RR.out (by have := HN.out; omega) P (q - 1) (by omega)
                have s6a := S1.out.st1 RR.out (by have := HN.out; omega) P (q) (by omega) dk[q - 1]!
                have s6b := S1.out.st2 RR.out (by have := HN.out; omega) P (q) (q - 1) (by omega) (by omega) dk[q - 1]! dk[q]!
                have n6a : (enc dk[q]!).length = k := RR.out.hk _
                have n6b : (enc dk[q - 1]!).length = k := RR.out.hk _
                generalize enc dk[q]! = cI6 at S2 l6a s6b n6a
                generalize enc dk[q - 1]! = cJ6 at S2 l6b s6a s6b n6b
                rw [Nat.zero_add] at l6a l6b s6a
                rw [Nat.zero_add, Nat.zero_add] at s6b S2
                clear S1
                go_wp2_with fail
                go_big_region_o
                clear l6a l6b s6a s6b
                generalize (wr.drew.setCells g ((q) * k) cJ6).setCells g ((q - 1) * k) cI6 = w3 at S2 ⊢
                go_wp2
                go_roundg (q - 1 - i)
                case measure => omega
                case rel =>
                  refine ⟨q - 1, swp dk q (q - 1), by go_num, by omega, by omega, Nat.le_refl _, by rw [size_swp]; exact hdk, S2, ⟨(swp_perm dk (by omega) (by omega)).trans HD.out.1, fun x => ?_⟩⟩
                  obtain ⟨r, rfl⟩ : ∃ r, q = r + 1 := ⟨q - 1, by omega⟩
                  rw [Nat.add_sub_cancel, swp_get dk (i := r + 1) (j := r) (by omega) (by omega)]
                  by_cases e1 : x = r
                  · subst e1
                    rw [if_pos rfl, HD.out.2 (x + 1), if_neg (by omega), if_pos rfl, if_neg (by omega), if_pos rfl]
                  · rw [if_neg e1]
                    by_cases e2 : x = r + 1
                    · subst e2
                      rw [if_pos rfl, HD.out.2 r, if_neg (by omega), if_neg (by omega), if_pos (by omega), Nat.add_sub_cancel]
                    · rw [if_neg e2, HD.out.2 x, if_neg e2, if_neg e1]
                      by_cases e3 : r + 1 < x ∧ x ≤ m
                      · rw [if_pos e3, if_pos (show r < x ∧ x ≤ m by omega)]
                      · rw [if_neg e3, if_neg (show ¬ (r < x ∧ x ≤ m) by omega)]
              · have qz : ¬ (i : Int) < (q : Int) := by omega
                have hqe : q = i := by omega
                have HD2 := HD.out.2
                rw [hqe] at HD2
                have HE : Hid (Mrg d dk a b) := MU.out dk (by omega) HD.out.1 HD2
                clear hqe HD2
                go_wp2
                (try simp only [Exit.inBlock, Exit.then]); refine bodyPost_ret (results_none rfl _ _ _) rfl ?_
                exact ⟨rfl, dk, S1.out, HE.out⟩
      · have c2z : ((b : Int) - (m : Int) == 1) = false := by simp; omega
        obtain ⟨mid, hmid⟩ : ∃ M : Nat, (a + b) / 2 = M := ⟨_, rfl⟩
        have hmidi : ((a : Int) + (b : Int)) / 2 = (mid : Int) := by omega
        have HFin : Hid (∀ (d1 : Array Stp) (s : Nat) (w1 : World), d1.size = N → d1.toList.Perm d.toList → Mid d d1 a s mid (mid + m - s) b → a ≤ s → s ≤ mid → SWK enc k w0 g 0 d1 w1 → True) := fun _ _ _ _ _ _ _ _ _ => trivial
        clear HFin
        have SEARCH : Hid (∀ s0 r0 : Nat, s0 = (if mid < m then mid + m - b else a) → r0 = (if mid < m then mid else m) → a ≤ s0 ∧ s0 ≤ r0 ∧ r0 ≤ m ∧ r0 ≤ mid ∧ ∀ c, s0 ≤ c → c < r0 → m ≤ mid + m - 1 - c ∧ mid + m - 1 - c < b) := fun s0 r0 h1 h2 => by
          split at h1 <;> split at h2 <;> refine ⟨by omega, by omega, by omega, by omega, fun c h3 h4 => by omega⟩
        by_cases c3 : mid < m
        · have c3z : (m : Int) > (mid : Int) := by omega
          obtain ⟨s0, hs0⟩ : ∃ s0, s0 = (if mid < m then mid + m - b else a) := ⟨_, rfl⟩
          obtain ⟨r0, hr0⟩ : ∃ r0, r0 = (if mid < m then mid else m) := ⟨_, rfl⟩
          obtain ⟨q1, q2, q3, q4, q5⟩ := SEARCH.out s0 r0 hs0 hr0
          have HS0 : Hid (s0 = (if mid < m then mid + m - b else a)) := hs0
          have HR0 : Hid (r0 = (if mid < m then mid else m)) := hr0
          have Q5 : Hid (∀ c, s0 ≤ c → c < r0 → m ≤ mid + m - 1 - c ∧ mid + m - 1 - c < b) := q5
          clear q5
          rw [if_pos c3] at hs0 hr0
          go_wp2_with fail
          go_loopg [20, 21] (r0 - s0) (fun kx iv jv wr => ∃ i j : Nat, iv = .int .i64 i ∧ jv = .int .i64 j ∧ s0 ≤ i ∧ i ≤ j ∧ j ≤ r0 ∧ j - i ≤ kx ∧ Aside (SWK enc k w0 g 0 d wr) ∧ Hid ((∀ x, s0 ≤ x → x < i → ky d x ≤ ky d (mid + m - 1 - x)) ∧ ∀ x, j ≤ x → x < r0 → ky d (mid + m - 1 - x) < ky d x))
          case atStart => exact ⟨s0, r0, by go_num, by go_num, Nat.le_refl _, q2, Nat.le_refl _, Nat.le_refl _, S0, ⟨fun x h h2 => by omega, fun x h h2 => by omega⟩⟩
          case round =>
            clear S0
            obtain ⟨i, j, rfl, rfl, hi, hij, hjb, hkx, S1, HP⟩ := hrel
            by_cases hlt : i < j
            · have ltz : (i : Int) < (j : Int) := by omega
              obtain ⟨M, hM⟩ : ∃ M : Nat, (i + j) / 2 = M := ⟨_, rfl⟩
              have hMi : ((i : Int) + (j : Int)) / 2 = (M : Int) := by omega
              have m0 : i ≤ M := by omega
              have m1 : M < j := by omega
              obtain ⟨g1, g2⟩ := Q5.out M (by omega) (by omega)
              obtain ⟨PM, hPM⟩ : ∃ PM : Nat, mid + m - 1 - M = PM := ⟨_, rfl⟩
              have hPi : (mid : Int) + (m : Int) - 1 - (M : Int) = (PM : Int) := by omega
              rw [hPM] at g1 g2
              by_cases hle : ky d PM < ky d M
              · have HL : Hid (ky d PM < ky d M) := hle
                clear hle
                have ea7 : ((PM : Int)).toNat = PM := by omega
                have pa7 : (0 : Int) ≤ (PM : Int) := by omega
                have ba7 : (PM : Int) < (N : Int) := by omega
                have ra7 : IntKind.i64.wrap ((PM : Int)) = (PM : Int) := by rw [IntKind.wrap_i64]; omega
                have ec7 : ((M : Int)).toNat = M := by omega
                have pc7 : (0 : Int) ≤ (M : Int) := by omega
                have bc7 : (M : Int) < (N : Int) := by omega
                have rc7 : IntKind.i64.wrap ((M : Int)) = (M : Int) := by rw [IntKind.wrap_i64]; omega
                obtain ⟨x7, hx7⟩ : ∃ x, x = d[PM]! := ⟨_, rfl⟩
                obtain ⟨y7, hy7⟩ : ∃ x, x = d[M]! := ⟨_, rfl⟩
                have l7a := S1.out.ld RR.out (by have := HN.out; omega) P (PM) (by omega)
                have l7b := S1.out.ld RR.out (by have := HN.out; omega) P (M) (by omega)
                simp only [Nat.zero_add] at l7a l7b
                rw [← hx7] at l7a
                rw [← hy7] at l7b
                have hc7 := S1.out.cmp HC.out (by have := HN.out; omega) x7 y7
                have hv7 : cmpQ x7 y7 < 0 := by rw [hx7, hy7, ltQ]; exact HL.out
                have hd7 : decide (cmpQ x7 y7 < 0) = true := decide_eq_true hv7
                generalize cmpQ x7 y7 = r7 at hc7 hv7 hd7
                clear hx7 hy7
                go_wp2_with fail
                go_quiet_grown (first | (go_at_fn 66; refine Calls.grown_of (hc7 _ _)))
                have S2 : Aside (SWK enc k w0 g 0 d (grow (wr.drewN nq) osq)) := S1.out.grown nq osq
                clear l7a l7b hc7 S1
                generalize grow (wr.drewN nq) osq = w2 at S2 ⊢
                clear nq osq
                go_wp2
                go_roundg (M - i)
                case measure => omega
                case rel => exact ⟨i, M, rfl, by go_num, hi, m0, by omega, Nat.le_refl _, S2, ⟨HP.out.1, fun x h h2 => Int.lt_of_le_of_lt (HB.out _ PM (Q5.out x (by omega) h2).1 (by omega) g2) (Int.lt_of_lt_of_le HL.out (HA.out M x (by omega) h (by omega)))⟩⟩
              · have HL : Hid (ky d M ≤ ky d PM) := Int.not_lt.1 hle
                clear hle
                have ea8 : ((PM : Int)).toNat = PM := by omega
                have pa8 : (0 : Int) ≤ (PM : Int) := by omega
                have ba8 : (PM : Int) < (N : Int) := by omega
                have ra8 : IntKind.i64.wrap ((PM : Int)) = (PM : Int) := by rw [IntKind.wrap_i64]; omega
                have ec8 : ((M : Int)).toNat = M := by omega
                have pc8 : (0 : Int) ≤ (M : Int) := by omega
                have bc8 : (M : Int) < (N : Int) := by omega
                have rc8 : IntKind.i64.wrap ((M : Int)) = (M : Int) := by rw [IntKind.wrap_i64]; omega
                obtain ⟨x8, hx8⟩ : ∃ x, x = d[PM]! := ⟨_, rfl⟩
                obtain ⟨y8, hy8⟩ : ∃ x, x = d[M]! := ⟨_, rfl⟩
                have l8a := S1.out.ld RR.out (by have := HN.out; omega) P (PM) (by omega)
                have l8b := S1.out.ld RR.out (by have := HN.out; omega) P (M) (by omega)
                simp only [Nat.zero_add] at l8a l8b
                rw [← hx8] at l8a
                rw [← hy8] at l8b
                have hc8 := S1.out.cmp HC.out (by have := HN.out; omega) x8 y8
                have hv8 : ¬ cmpQ x8 y8 < 0 := by rw [hx8, hy8, ltQ]; exact Int.not_lt.2 HL.out
                have hd8 : decide (cmpQ x8 y8 < 0) = false := decide_eq_false hv8
                generalize cmpQ x8 y8 = r8 at hc8 hv8 hd8
                clear hx8 hy8
                go_wp2_with fail
                go_quiet_grown (first | (go_at_fn 66; refine Calls.grown_of (hc8 _ _)))
                have S2 : Aside (SWK enc k w0 g 0 d (grow (wr.drewN nq) osq)) := S1.out.grown nq osq
                clear l8a l8b hc8 S1
                generalize grow (wr.drewN nq) osq = w2 at S2 ⊢
                clear nq osq
                go_wp2
                go_roundg (j - (M + 1))
                case measure => omega
                case rel => exact ⟨M + 1, j, by go_num, rfl, by omega, by omega, hjb, Nat.le_refl _, S2, ⟨fun x h h2 => Int.le_trans (HA.out x M (by omega) (by omega) (by omega)) (Int.le_trans HL.out (HB.out PM _ g1 (by omega) (Q5.out x h (by omega)).2)), HP.out.2⟩⟩
            · have ltz : ¬ (i : Int) < (j : Int) := by omega
              obtain rfl : i = j := by omega
              have MID : Hid (∀ d1 : Array Stp, (∀ x, d1[x]! = rotD d i m (mid + m - i) x) → Mid d d1 a i mid (mid + m - i) b) := fun d1 h => (mid_of HA.out HB.out ham hmb hmid HS0.out HR0.out hi hjb rfl HP.out.1 HP.out.2 h).1
              have hai : a ≤ i := by omega
              have him : i ≤ m := by omega
              have himid : i ≤ mid := by omega
              have hend : m ≤ mid + m - i := by omega
              have hendb : mid + m - i ≤ b := by
                rcases Nat.lt_or_ge mid m with h | h <;> omega
              have hde : ((mid : Int) + (m : Int) - (i : Int)) = ((mid + m - i : Nat) : Int) := by omega
              clear hs0 hr0 q2 q3 q4
              have hai0 := hai
              obtain ⟨E, hE⟩ : ∃ E, mid + m - i = E := ⟨_, rfl⟩
              rw [hE] at hde hend hendb MID
              
              have MDS : Hid (¬ (i < m ∧ i < mid) → Mid d d a i mid E b) := fun hh => MID.out d (fun x => by
                unfold rotD
                by_cases h5 : i < m
                · have : E = m := by omega
                  subst this
                  rw [if_neg (by omega)]
                  split
                  · rw [show x - (E - E) = x by omega]
                  · rfl
                · have : i = m := by omega
                  subst this
                  split
                  · rw [show i + (x - i) = x by omega]
                  · rw [if_neg (by omega)])
              have HOUT : Hid (∀ (d1 d2 d3 : Array Stp), Mid d d1 a i mid E b → d1.size = N → d1.toList.Perm d.toList → Mrg d1 d2 a mid → Mrg d2 d3 mid b → Mrg d d3 a b) := fun d1 d2 d3 h1 h2 h3 h4 h5 => mrg_of h1 (by omega) h3 h4 h5 (by omega) (by omega)
              clear hlt ltz
              by_cases kA : i < m
              · skip
                by_cases kB : i < mid
                · skip
                  by_cases kC : a < i
                  · skip
                    by_cases kD : E < b
                    · skip
                      have f1 : (i : Int) < (m : Int) := by omega
                      have f2 : (m : Int) < (E : Int) := by omega
                      have f3 : (a : Int) < (i : Int) := by omega
                      have f4 : (i : Int) < (mid : Int) := by omega
                      have f5 : (mid : Int) < (E : Int) := by omega
                      have f6 : (E : Int) < (b : Int) := by omega
                      have hcall := HR.out i m E d wr hd kA (by omega) (by omega) S1.out
                      clear S1
                      go_wp2_with (go_at_fn 82; refine hcall.mono ?_; clear hcall; rintro e w4 ⟨rfl, d1, S4, hz4, hp4, hd4⟩)
                      have S5 : Aside (SWK enc k w0 g 0 d1 w4) := S4
                      have MD : Hid (Mid d d1 a i mid E b) := MID.out d1 hd4
                      have HP4 : Hid (d1.toList.Perm d.toList) := hp4
                      have HZ4 : Hid (d1.size = N) := hz4
                      clear S4 hz4 hp4 hd4
                      have hcall := IH.out a i mid d1 w4 (by omega) HZ4.out kC kB (by omega) MD.out.s1 MD.out.s2 S5.out
                      clear S5
                      go_wp2_with (go_at_fn 79; refine hcall.mono ?_; clear hcall; rintro e w6 ⟨rfl, d2, S6, M6⟩)
                      have S7 : Aside (SWK enc k w0 g 0 d2 w6) := S6
                      have M7 : Hid (Mrg d1 d2 a mid) := M6
                      have H7 : Hid (d2.size = N) := by show _ = _; rw [M6.size]; exact HZ4.out
                      clear S6 M6
                      have T3 : Hid (Srt d2 mid E) := fun x y h h' h'' => by unfold ky; rw [M7.out.out x (Or.inr h), M7.out.out y (Or.inr (by omega))]; exact MD.out.s3 x y h h' h''
                      have T4 : Hid (Srt d2 E b) := fun x y h h' h'' => by unfold ky; rw [M7.out.out x (Or.inr (by omega)), M7.out.out y (Or.inr (by omega))]; exact MD.out.s4 x y h h' h''
                      have hcall := IH.out mid E b d2 w6 (by omega) H7.out (by omega) (by omega) hbN T3.out T4.out S7.out
                      clear S7 T3 T4
                      go_wp2_with (go_at_fn 79; refine hcall.mono ?_; clear hcall; rintro e w8 ⟨rfl, d3, S8, M8⟩)
                      have M9 : Hid (Mrg d2 d3 mid b) := M8
                      go_end0
                      exact ⟨rfl, d3, S8, HOUT.out _ _ _ MD.out HZ4.out HP4.out M7.out M9.out⟩
                    · skip
                      have f1 : (i : Int) < (m : Int) := by omega
                      have f2 : (m : Int) < (E : Int) := by omega
                      have f3 : (a : Int) < (i : Int) := by omega
                      have f4 : (i : Int) < (mid : Int) := by omega
                      have f5 : (mid : Int) < (E : Int) := by omega
                      have f6 : ¬ (E : Int) < (b : Int) := by omega
                      have hcall := HR.out i m E d wr hd kA (by omega) (by omega) S1.out
                      clear S1
                      go_wp2_with (go_at_fn 82; refine hcall.mono ?_; clear hcall; rintro e w4 ⟨rfl, d1, S4, hz4, hp4, hd4⟩)
                      have S5 : Aside (SWK enc k w0 g 0 d1 w4) := S4
                      have MD : Hid (Mid d d1 a i mid E b) := MID.out d1 hd4
                      have HP4 : Hid (d1.toList.Perm d.toList) := hp4
                      have HZ4 : Hid (d1.size = N) := hz4
                      clear S4 hz4 hp4 hd4
                      have hcall := IH.out a i mid d1 w4 (by omega) HZ4.out kC kB (by omega) MD.out.s1 MD.out.s2 S5.out
                      clear S5
                      go_wp2_with (go_at_fn 79; refine hcall.mono ?_; clear hcall; rintro e w6 ⟨rfl, d2, S6, M6⟩)
                      have S7 : Aside (SWK enc k w0 g 0 d2 w6) := S6
                      have M7 : Hid (Mrg d1 d2 a mid) := M6
                      have H7 : Hid (d2.size = N) := by show _ = _; rw [M6.size]; exact HZ4.out
                      clear S6 M6
                      have T3 : Hid (Srt d2 mid E) := fun x y h h' h'' => by unfold ky; rw [M7.out.out x (Or.inr h), M7.out.out y (Or.inr (by omega))]; exact MD.out.s3 x y h h' h''
                      have T4 : Hid (Srt d2 E b) := fun x y h h' h'' => by unfold ky; rw [M7.out.out x (Or.inr (by omega)), M7.out.out y (Or.inr (by omega))]; exact MD.out.s4 x y h h' h''
                      have M9 : Hid (Mrg d2 d2 mid b) := Mrg.same (by
                        by_cases hh : mid < E
                        · have : E = b := by omega
                          have h8 := T3.out
                          rw [this] at h8; exact h8
                        · have : E = mid := by omega
                          have h8 := T4.out
                          rw [this] at h8; exact h8)
                      go_end0
                      exact ⟨rfl, d2, S7.out, HOUT.out _ _ _ MD.out HZ4.out HP4.out M7.out M9.out⟩
                  · skip
                    by_cases kD : E < b
                    · skip
                      have f1 : (i : Int) < (m : Int) := by omega
                      have f2 : (m : Int) < (E : Int) := by omega
                      have f3 : ¬ (a : Int) < (i : Int) := by omega
                      have f4 : (i : Int) < (mid : Int) := by omega
                      have f5 : (mid : Int) < (E : Int) := by omega
                      have f6 : (E : Int) < (b : Int) := by omega
                      have hcall := HR.out i m E d wr hd kA (by omega) (by omega) S1.out
                      clear S1
                      go_wp2_with (go_at_fn 82; refine hcall.mono ?_; clear hcall; rintro e w4 ⟨rfl, d1, S4, hz4, hp4, hd4⟩)
                      have S5 : Aside (SWK enc k w0 g 0 d1 w4) := S4
                      have MD : Hid (Mid d d1 a i mid E b) := MID.out d1 hd4
                      have HP4 : Hid (d1.toList.Perm d.toList) := hp4
                      have HZ4 : Hid (d1.size = N) := hz4
                      clear S4 hz4 hp4 hd4
                      have M7 : Hid (Mrg d1 d1 a mid) := Mrg.same (by
                        by_cases hh : a < i
                        · have : i = mid := by omega
                          have h8 := MD.out.s1
                          rw [this] at h8; exact h8
                        · have : i = a := by omega
                          have h8 := MD.out.s2
                          rw [this] at h8; exact h8)
                      have T3 : Hid (Srt d1 mid E) := fun x y h h' h'' => by unfold ky; rw [M7.out.out x (Or.inr h), M7.out.out y (Or.inr (by omega))]; exact MD.out.s3 x y h h' h''
                      have T4 : Hid (Srt d1 E b) := fun x y h h' h'' => by unfold ky; rw [M7.out.out x (Or.inr (by omega)), M7.out.out y (Or.inr (by omega))]; exact MD.out.s4 x y h h' h''
                      have hcall := IH.out mid E b d1 w4 (by omega) HZ4.out (by omega) (by omega) hbN T3.out T4.out S5.out
                      clear S5 T3 T4
                      go_wp2_with (go_at_fn 79; refine hcall.mono ?_; clear hcall; rintro e w8 ⟨rfl, d3, S8, M8⟩)
                      have M9 : Hid (Mrg d1 d3 mid b) := M8
                      go_end0
                      exact ⟨rfl, d3, S8, HOUT.out _ _ _ MD.out HZ4.out HP4.out M7.out M9.out⟩
                    · skip
                      have f1 : (i : Int) < (m : Int) := by omega
                      have f2 : (m : Int) < (E : Int) := by omega
                      have f3 : ¬ (a : Int) < (i : Int) := by omega
                      have f4 : (i : Int) < (mid : Int) := by omega
                      have f5 : (mid : Int) < (E : Int) := by omega
                      have f6 : ¬ (E : Int) < (b : Int) := by omega
                      have hcall := HR.out i m E d wr hd kA (by omega) (by omega) S1.out
                      clear S1
                      go_wp2_with (go_at_fn 82; refine hcall.mono ?_; clear hcall; rintro e w4 ⟨rfl, d1, S4, hz4, hp4, hd4⟩)
                      have S5 : Aside (SWK enc k w0 g 0 d1 w4) := S4
                      have MD : Hid (Mid d d1 a i mid E b) := MID.out d1 hd4
                      have HP4 : Hid (d1.toList.Perm d.toList) := hp4
                      have HZ4 : Hid (d1.size = N) := hz4
                      clear S4 hz4 hp4 hd4
                      have M7 : Hid (Mrg d1 d1 a mid) := Mrg.same (by
                        by_cases hh : a < i
                        · have : i = mid := by omega
                          have h8 := MD.out.s1
                          rw [this] at h8; exact h8
                        · have : i = a := by omega
                          have h8 := MD.out.s2
                          rw [this] at h8; exact h8)
                      have T3 : Hid (Srt d1 mid E) := fun x y h h' h'' => by unfold ky; rw [M7.out.out x (Or.inr h), M7.out.out y (Or.inr (by omega))]; exact MD.out.s3 x y h h' h''
                      have T4 : Hid (Srt d1 E b) := fun x y h h' h'' => by unfold ky; rw [M7.out.out x (Or.inr (by omega)), M7.out.out y (Or.inr (by omega))]; exact MD.out.s4 x y h h' h''
                      have M9 : Hid (Mrg d1 d1 mid b) := Mrg.same (by
                        by_cases hh : mid < E
                        · have : E = b := by omega
                          have h8 := T3.out
                          rw [this] at h8; exact h8
                        · have : E = mid := by omega
                          have h8 := T4.out
                          rw [this] at h8; exact h8)
                      go_end0
                      exact ⟨rfl, d1, S5.out, HOUT.out _ _ _ MD.out HZ4.out HP4.out M7.out M9.out⟩
                · skip
                  by_cases kC : a < i
                  · skip
                    by_cases kD : E < b
                    · skip
                      have f1 : (i : Int) < (m : Int) := by omega
                      have f2 : ¬ (m : Int) < (E : Int) := by omega
                      have f3 : (a : Int) < (i : Int) := by omega
                      have f4 : ¬ (i : Int) < (mid : Int) := by omega
                      have f5 : (mid : Int) < (E : Int) := by omega
                      have f6 : (E : Int) < (b : Int) := by omega
                      have MD : Hid (Mid d d a i mid E b) := MDS.out (by omega)
                      have M7 : Hid (Mrg d d a mid) := Mrg.same (by
                        by_cases hh : a < i
                        · have : i = mid := by omega
                          have h8 := MD.out.s1
                          rw [this] at h8; exact h8
                        · have : i = a := by omega
                          have h8 := MD.out.s2
                          rw [this] at h8; exact h8)
                      have T3 : Hid (Srt d mid E) := fun x y h h' h'' => by unfold ky; rw [M7.out.out x (Or.inr h), M7.out.out y (Or.inr (by omega))]; exact MD.out.s3 x y h h' h''
                      have T4 : Hid (Srt d E b) := fun x y h h' h'' => by unfold ky; rw [M7.out.out x (Or.inr (by omega)), M7.out.out y (Or.inr (by omega))]; exact MD.out.s4 x y h h' h''
                      have hcall := IH.out mid E b d wr (by omega) hd (by omega) (by omega) hbN T3.out T4.out S1.out
                      clear S1 T3 T4
                      go_wp2_with (go_at_fn 79; refine hcall.mono ?_; clear hcall; rintro e w8 ⟨rfl, d3, S8, M8⟩)
                      have M9 : Hid (Mrg d d3 mid b) := M8
                      go_end0
                      exact ⟨rfl, d3, S8, HOUT.out _ _ _ MD.out hd (List.Perm.refl _) M7.out M9.out⟩
                    · skip
                      have f1 : (i : Int) < (m : Int) := by omega
                      have f2 : ¬ (m : Int) < (E : Int) := by omega
                      have f3 : (a : Int) < (i : Int) := by omega
                      have f4 : ¬ (i : Int) < (mid : Int) := by omega
                      have f5 : (mid : Int) < (E : Int) := by omega
                      have f6 : ¬ (E : Int) < (b : Int) := by omega
                      have MD : Hid (Mid d d a i mid E b) := MDS.out (by omega)
                      have M7 : Hid (Mrg d d a mid) := Mrg.same (by
                        by_cases hh : a < i
                        · have : i = mid := by omega
                          have h8 := MD.out.s1
                          rw [this] at h8; exact h8
                        · have : i = a := by omega
                          have h8 := MD.out.s2
                          rw [this] at h8; exact h8)
                      have T3 : Hid (Srt d mid E) := fun x y h h' h'' => by unfold ky; rw [M7.out.out x (Or.inr h), M7.out.out y (Or.inr (by omega))]; exact MD.out.s3 x y h h' h''
                      have T4 : Hid (Srt d E b) := fun x y h h' h'' => by unfold ky; rw [M7.out.out x (Or.inr (by omega)), M7.out.out y (Or.inr (by omega))]; exact MD.out.s4 x y h h' h''
                      have M9 : Hid (Mrg d d mid b) := Mrg.same (by
                        by_cases hh : mid < E
                        · have : E = b := by omega
                          have h8 := T3.out
                          rw [this] at h8; exact h8
                        · have : E = mid := by omega
                          have h8 := T4.out
                          rw [this] at h8; exact h8)
                      go_wp2
                      go_end0
                      exact ⟨rfl, d, S1.out, HOUT.out _ _ _ MD.out hd (List.Perm.refl _) M7.out M9.out⟩
                  · skip
                    by_cases kD : E < b
                    · skip
                      have f1 : (i : Int) < (m : Int) := by omega
                      have f2 : ¬ (m : Int) < (E : Int) := by omega
                      have f3 : ¬ (a : Int) < (i : Int) := by omega
                      have f4 : ¬ (i : Int) < (mid : Int) := by omega
                      have f5 : (mid : Int) < (E : Int) := by omega
                      have f6 : (E : Int) < (b : Int) := by omega
                      have MD : Hid (Mid d d a i mid E b) := MDS.out (by omega)
                      have M7 : Hid (Mrg d d a mid) := Mrg.same (by
                        by_cases hh : a < i
                        · have : i = mid := by omega
                          have h8 := MD.out.s1
                          rw [this] at h8; exact h8
                        · have : i = a := by omega
                          have h8 := MD.out.s2
                          rw [this] at h8; exact h8)
                      have T3 : Hid (Srt d mid E) := fun x y h h' h'' => by unfold ky; rw [M7.out.out x (Or.inr h), M7.out.out y (Or.inr (by omega))]; exact MD.out.s3 x y h h' h''
                      have T4 : Hid (Srt d E b) := fun x y h h' h'' => by unfold ky; rw [M7.out.out x (Or.inr (by omega)), M7.out.out y (Or.inr (by omega))]; exact MD.out.s4 x y h h' h''
                      have hcall := IH.out mid E b d wr (by omega) hd (by omega) (by omega) hbN T3.out T4.out S1.out
                      clear S1 T3 T4
                      go_wp2_with (go_at_fn 79; refine hcall.mono ?_; clear hcall; rintro e w8 ⟨rfl, d3, S8, M8⟩)
                      have M9 : Hid (Mrg d d3 mid b) := M8
                      go_end0
                      exact ⟨rfl, d3, S8, HOUT.out _ _ _ MD.out hd (List.Perm.refl _) M7.out M9.out⟩
                    · skip
                      have f1 : (i : Int) < (m : Int) := by omega
                      have f2 : ¬ (m : Int) < (E : Int) := by omega
                      have f3 : ¬ (a : Int) < (i : Int) := by omega
                      have f4 : ¬ (i : Int) < (mid : Int) := by omega
                      have f5 : (mid : Int) < (E : Int) := by omega
                      have f6 : ¬ (E : Int) < (b : Int) := by omega
                      have MD : Hid (Mid d d a i mid E b) := MDS.out (by omega)
                      have M7 : Hid (Mrg d d a mid) := Mrg.same (by
                        by_cases hh : a < i
                        · have : i = mid := by omega
                          have h8 := MD.out.s1
                          rw [this] at h8; exact h8
                        · have : i = a := by omega
                          have h8 := MD.out.s2
                          rw [this] at h8; exact h8)
                      have T3 : Hid (Srt d mid E) := fun x y h h' h'' => by unfold ky; rw [M7.out.out x (Or.inr h), M7.out.out y (Or.inr (by omega))]; exact MD.out.s3 x y h h' h''
                      have T4 : Hid (Srt d E b) := fun x y h h' h'' => by unfold ky; rw [M7.out.out x (Or.inr (by omega)), M7.out.out y (Or.inr (by omega))]; exact MD.out.s4 x y h h' h''
                      have M9 : Hid (Mrg d d mid b) := Mrg.same (by
                        by_cases hh : mid < E
                        · have : E = b := by omega
                          have h8 := T3.out
                          rw [this] at h8; exact h8
                        · have : E = mid := by omega
                          have h8 := T4.out
                          rw [this] at h8; exact h8)
                      go_wp2
                      go_end0
                      exact ⟨rfl, d, S1.out, HOUT.out _ _ _ MD.out hd (List.Perm.refl _) M7.out M9.out⟩
              · skip
                by_cases kB : i < mid
                · skip
                  by_cases kC : a < i
                  · skip
                    by_cases kD : E < b
                    · skip
                      exfalso; omega
                    · skip
                      exfalso; omega
                  · skip
                    by_cases kD : E < b
                    · skip
                      exfalso; omega
                    · skip
                      exfalso; omega
                · skip
                  by_cases kC : a < i
                  · skip
                    by_cases kD : E < b
                    · skip
                      exfalso; omega
                    · skip
                      exfalso; omega
                  · skip
                    by_cases kD : E < b
                    · skip
                      exfalso; omega
                    · skip
                      exfalso; omega
        · have c3z : ¬ (m : Int) > (mid : Int) := by omega
          obtain ⟨s0, hs0⟩ : ∃ s0, s0 = (if mid < m then mid + m - b else a) := ⟨_, rfl⟩
          obtain ⟨r0, hr0⟩ : ∃ r0, r0 = (if mid < m then mid else m) := ⟨_, rfl⟩
          obtain ⟨q1, q2, q3, q4, q5⟩ := SEARCH.out s0 r0 hs0 hr0
          have HS0 : Hid (s0 = (if mid < m then mid + m - b else a)) := hs0
          have HR0 : Hid (r0 = (if mid < m then mid else m)) := hr0
          have Q5 : Hid (∀ c, s0 ≤ c → c < r0 → m ≤ mid + m - 1 - c ∧ mid + m - 1 - c < b) := q5
          clear q5
          rw [if_neg c3] at hs0 hr0
          go_wp2_with fail
          go_loopg [20, 21] (r0 - s0) (fun kx iv jv wr => ∃ i j : Nat, iv = .int .i64 i ∧ jv = .int .i64 j ∧ s0 ≤ i ∧ i ≤ j ∧ j ≤ r0 ∧ j - i ≤ kx ∧ Aside (SWK enc k w0 g 0 d wr) ∧ Hid ((∀ x, s0 ≤ x → x < i → ky d x ≤ ky d (mid + m - 1 - x)) ∧ ∀ x, j ≤ x → x < r0 → ky d (mid + m - 1 - x) < ky d x))
          case atStart => exact ⟨s0, r0, by go_num, by go_num, Nat.le_refl _, q2, Nat.le_refl _, Nat.le_refl _, S0, ⟨fun x h h2 => by omega, fun x h h2 => by omega⟩⟩
          case round =>
            clear S0
            obtain ⟨i, j, rfl, rfl, hi, hij, hjb, hkx, S1, HP⟩ := hrel
            by_cases hlt : i < j
            · have ltz : (i : Int) < (j : Int) := by omega
              obtain ⟨M, hM⟩ : ∃ M : Nat, (i + j) / 2 = M := ⟨_, rfl⟩
              have hMi : ((i : Int) + (j : Int)) / 2 = (M : Int) := by omega
              have m0 : i ≤ M := by omega
              have m1 : M < j := by omega
              obtain ⟨g1, g2⟩ := Q5.out M (by omega) (by omega)
              obtain ⟨PM, hPM⟩ : ∃ PM : Nat, mid + m - 1 - M = PM := ⟨_, rfl⟩
              have hPi : (mid : Int) + (m : Int) - 1 - (M : Int) = (PM : Int) := by omega
              rw [hPM] at g1 g2
              by_cases hle : ky d PM < ky d M
              · have HL : Hid (ky d PM < ky d M) := hle
                clear hle
                have ea9 : ((PM : Int)).toNat = PM := by omega
                have pa9 : (0 : Int) ≤ (PM : Int) := by omega
                have ba9 : (PM : Int) < (N : Int) := by omega
                have ra9 : IntKind.i64.wrap ((PM : Int)) = (PM : Int) := by rw [IntKind.wrap_i64]; omega
                have ec9 : ((M : Int)).toNat = M := by omega
                have pc9 : (0 : Int) ≤ (M : Int) := by omega
                have bc9 : (M : Int) < (N : Int) := by omega
                have rc9 : IntKind.i64.wrap ((M : Int)) = (M : Int) := by rw [IntKind.wrap_i64]; omega
                obtain ⟨x9, hx9⟩ : ∃ x, x = d[PM]! := ⟨_, rfl⟩
                obtain ⟨y9, hy9⟩ : ∃ x, x = d[M]! := ⟨_, rfl⟩
                have l9a := S1.out.ld RR.out (by have := HN.out; omega) P (PM) (by omega)
                have l9b := S1.out.ld RR.out (by have := HN.out; omega) P (M) (by omega)
                simp only [Nat.zero_add] at l9a l9b
                rw [← hx9] at l9a
                rw [← hy9] at l9b
                have hc9 := S1.out.cmp HC.out (by have := HN.out; omega) x9 y9
                have hv9 : cmpQ x9 y9 < 0 := by rw [hx9, hy9, ltQ]; exact HL.out
                have hd9 : decide (cmpQ x9 y9 < 0) = true := decide_eq_true hv9
                generalize cmpQ x9 y9 = r9 at hc9 hv9 hd9
                clear hx9 hy9
                go_wp2_with fail
                go_quiet_grown (first | (go_at_fn 66; refine Calls.grown_of (hc9 _ _)))
                have S2 : Aside (SWK enc k w0 g 0 d (grow (wr.drewN nq) osq)) := S1.out.grown nq osq
                clear l9a l9b hc9 S1
                generalize grow (wr.drewN nq) osq = w2 at S2 ⊢
                clear nq osq
                go_wp2
                go_roundg (M - i)
                case measure => omega
                case rel => exact ⟨i, M, rfl, by go_num, hi, m0, by omega, Nat.le_refl _, S2, ⟨HP.out.1, fun x h h2 => Int.lt_of_le_of_lt (HB.out _ PM (Q5.out x (by omega) h2).1 (by omega) g2) (Int.lt_of_lt_of_le HL.out (HA.out M x (by omega) h (by omega)))⟩⟩
              · have HL : Hid (ky d M ≤ ky d PM) := Int.not_lt.1 hle
                clear hle
                have ea10 : ((PM : Int)).toNat = PM := by omega
                have pa10 : (0 : Int) ≤ (PM : Int) := by omega
                have ba10 : (PM : Int) < (N : Int) := by omega
                have ra10 : IntKind.i64.wrap ((PM : Int)) = (PM : Int) := by rw [IntKind.wrap_i64]; omega
                have ec10 : ((M : Int)).toNat = M := by omega
                have pc10 : (0 : Int) ≤ (M : Int) := by omega
                have bc10 : (M : Int) < (N : Int) := by omega
                have rc10 : IntKind.i64.wrap ((M : Int)) = (M : Int) := by rw [IntKind.wrap_i64]; omega
                obtain ⟨x10, hx10⟩ : ∃ x, x = d[PM]! := ⟨_, rfl⟩
                obtain ⟨y10, hy10⟩ : ∃ x, x = d[M]! := ⟨_, rfl⟩
                have l10a := S1.out.ld RR.out (by have := HN.out; omega) P (PM) (by omega)
                have l10b := S1.out.ld RR.out (by have := HN.out; omega) P (M) (by omega)
                simp only [Nat.zero_add] at l10a l10b
                rw [← hx10] at l10a
                rw [← hy10] at l10b
                have hc10 := S1.out.cmp HC.out (by have := HN.out; omega) x10 y10
                have hv10 : ¬ cmpQ x10 y10 < 0 := by rw [hx10, hy10, ltQ]; exact Int.not_lt.2 HL.out
                have hd10 : decide (cmpQ x10 y10 < 0) = false := decide_eq_false hv10
                generalize cmpQ x10 y10 = r10 at hc10 hv10 hd10
                clear hx10 hy10
                go_wp2_with fail
                go_quiet_grown (first | (go_at_fn 66; refine Calls.grown_of (hc10 _ _)))
                have S2 : Aside (SWK enc k w0 g 0 d (grow (wr.drewN nq) osq)) := S1.out.grown nq osq
                clear l10a l10b hc10 S1
                generalize grow (wr.drewN nq) osq = w2 at S2 ⊢
                clear nq osq
                go_wp2
                go_roundg (j - (M + 1))
                case measure => omega
                case rel => exact ⟨M + 1, j, by go_num, rfl, by omega, by omega, hjb, Nat.le_refl _, S2, ⟨fun x h h2 => Int.le_trans (HA.out x M (by omega) (by omega) (by omega)) (Int.le_trans HL.out (HB.out PM _ g1 (by omega) (Q5.out x h (by omega)).2)), HP.out.2⟩⟩
            · have ltz : ¬ (i : Int) < (j : Int) := by omega
              obtain rfl : i = j := by omega
              have MID : Hid (∀ d1 : Array Stp, (∀ x, d1[x]! = rotD d i m (mid + m - i) x) → Mid d d1 a i mid (mid + m - i) b) := fun d1 h => (mid_of HA.out HB.out ham hmb hmid HS0.out HR0.out hi hjb rfl HP.out.1 HP.out.2 h).1
              have hai : a ≤ i := by omega
              have him : i ≤ m := by omega
              have himid : i ≤ mid := by omega
              have hend : m ≤ mid + m - i := by omega
              have hendb : mid + m - i ≤ b := by
                rcases Nat.lt_or_ge mid m with h | h <;> omega
              have hde : ((mid : Int) + (m : Int) - (i : Int)) = ((mid + m - i : Nat) : Int) := by omega
              clear hs0 hr0 q2 q3 q4
              have hai0 := hai
              obtain ⟨E, hE⟩ : ∃ E, mid + m - i = E := ⟨_, rfl⟩
              rw [hE] at hde hend hendb MID
              
              have MDS : Hid (¬ (i < m ∧ i < mid) → Mid d d a i mid E b) := fun hh => MID.out d (fun x => by
                unfold rotD
                by_cases h5 : i < m
                · have : E = m := by omega
                  subst this
                  rw [if_neg (by omega)]
                  split
                  · rw [show x - (E - E) = x by omega]
                  · rfl
                · have : i = m := by omega
                  subst this
                  split
                  · rw [show i + (x - i) = x by omega]
                  · rw [if_neg (by omega)])
              have HOUT : Hid (∀ (d1 d2 d3 : Array Stp), Mid d d1 a i mid E b → d1.size = N → d1.toList.Perm d.toList → Mrg d1 d2 a mid → Mrg d2 d3 mid b → Mrg d d3 a b) := fun d1 d2 d3 h1 h2 h3 h4 h5 => mrg_of h1 (by omega) h3 h4 h5 (by omega) (by omega)
              clear hlt ltz
              by_cases kA : i < m
              · skip
                by_cases kB : i < mid
                · skip
                  by_cases kC : a < i
                  · skip
                    by_cases kD : E < b
                    · skip
                      have f1 : (i : Int) < (m : Int) := by omega
                      have f2 : (m : Int) < (E : Int) := by omega
                      have f3 : (a : Int) < (i : Int) := by omega
                      have f4 : (i : Int) < (mid : Int) := by omega
                      have f5 : (mid : Int) < (E : Int) := by omega
                      have f6 : (E : Int) < (b : Int) := by omega
                      have hcall := HR.out i m E d wr hd kA (by omega) (by omega) S1.out
                      clear S1
                      go_wp2_with (go_at_fn 82; refine hcall.mono ?_; clear hcall; rintro e w4 ⟨rfl, d1, S4, hz4, hp4, hd4⟩)
                      have S5 : Aside (SWK enc k w0 g 0 d1 w4) := S4
                      have MD : Hid (Mid d d1 a i mid E b) := MID.out d1 hd4
                      have HP4 : Hid (d1.toList.Perm d.toList) := hp4
                      have HZ4 : Hid (d1.size = N) := hz4
                      clear S4 hz4 hp4 hd4
                      have hcall := IH.out a i mid d1 w4 (by omega) HZ4.out kC kB (by omega) MD.out.s1 MD.out.s2 S5.out
                      clear S5
                      go_wp2_with (go_at_fn 79; refine hcall.mono ?_; clear hcall; rintro e w6 ⟨rfl, d2, S6, M6⟩)
                      have S7 : Aside (SWK enc k w0 g 0 d2 w6) := S6
                      have M7 : Hid (Mrg d1 d2 a mid) := M6
                      have H7 : Hid (d2.size = N) := by show _ = _; rw [M6.size]; exact HZ4.out
                      clear S6 M6
                      have T3 : Hid (Srt d2 mid E) := fun x y h h' h'' => by unfold ky; rw [M7.out.out x (Or.inr h), M7.out.out y (Or.inr (by omega))]; exact MD.out.s3 x y h h' h''
                      have T4 : Hid (Srt d2 E b) := fun x y h h' h'' => by unfold ky; rw [M7.out.out x (Or.inr (by omega)), M7.out.out y (Or.inr (by omega))]; exact MD.out.s4 x y h h' h''
                      have hcall := IH.out mid E b d2 w6 (by omega) H7.out (by omega) (by omega) hbN T3.out T4.out S7.out
                      clear S7 T3 T4
                      go_wp2_with (go_at_fn 79; refine hcall.mono ?_; clear hcall; rintro e w8 ⟨rfl, d3, S8, M8⟩)
                      have M9 : Hid (Mrg d2 d3 mid b) := M8
                      go_end0
                      exact ⟨rfl, d3, S8, HOUT.out _ _ _ MD.out HZ4.out HP4.out M7.out M9.out⟩
                    · skip
                      have f1 : (i : Int) < (m : Int) := by omega
                      have f2 : (m : Int) < (E : Int) := by omega
                      have f3 : (a : Int) < (i : Int) := by omega
                      have f4 : (i : Int) < (mid : Int) := by omega
                      have f5 : (mid : Int) < (E : Int) := by omega
                      have f6 : ¬ (E : Int) < (b : Int) := by omega
                      have hcall := HR.out i m E d wr hd kA (by omega) (by omega) S1.out
                      clear S1
                      go_wp2_with (go_at_fn 82; refine hcall.mono ?_; clear hcall; rintro e w4 ⟨rfl, d1, S4, hz4, hp4, hd4⟩)
                      have S5 : Aside (SWK enc k w0 g 0 d1 w4) := S4
                      have MD : Hid (Mid d d1 a i mid E b) := MID.out d1 hd4
                      have HP4 : Hid (d1.toList.Perm d.toList) := hp4
                      have HZ4 : Hid (d1.size = N) := hz4
                      clear S4 hz4 hp4 hd4
                      have hcall := IH.out a i mid d1 w4 (by omega) HZ4.out kC kB (by omega) MD.out.s1 MD.out.s2 S5.out
                      clear S5
                      go_wp2_with (go_at_fn 79; refine hcall.mono ?_; clear hcall; rintro e w6 ⟨rfl, d2, S6, M6⟩)
                      have S7 : Aside (SWK enc k w0 g 0 d2 w6) := S6
                      have M7 : Hid (Mrg d1 d2 a mid) := M6
                      have H7 : Hid (d2.size = N) := by show _ = _; rw [M6.size]; exact HZ4.out
                      clear S6 M6
                      have T3 : Hid (Srt d2 mid E) := fun x y h h' h'' => by unfold ky; rw [M7.out.out x (Or.inr h), M7.out.out y (Or.inr (by omega))]; exact MD.out.s3 x y h h' h''
                      have T4 : Hid (Srt d2 E b) := fun x y h h' h'' => by unfold ky; rw [M7.out.out x (Or.inr (by omega)), M7.out.out y (Or.inr (by omega))]; exact MD.out.s4 x y h h' h''
                      have M9 : Hid (Mrg d2 d2 mid b) := Mrg.same (by
                        by_cases hh : mid < E
                        · have : E = b := by omega
                          have h8 := T3.out
                          rw [this] at h8; exact h8
                        · have : E = mid := by omega
                          have h8 := T4.out
                          rw [this] at h8; exact h8)
                      go_end0
                      exact ⟨rfl, d2, S7.out, HOUT.out _ _ _ MD.out HZ4.out HP4.out M7.out M9.out⟩
                  · skip
                    by_cases kD : E < b
                    · skip
                      have f1 : (i : Int) < (m : Int) := by omega
                      have f2 : (m : Int) < (E : Int) := by omega
                      have f3 : ¬ (a : Int) < (i : Int) := by omega
                      have f4 : (i : Int) < (mid : Int) := by omega
                      have f5 : (mid : Int) < (E : Int) := by omega
                      have f6 : (E : Int) < (b : Int) := by omega
                      have hcall := HR.out i m E d wr hd kA (by omega) (by omega) S1.out
                      clear S1
                      go_wp2_with (go_at_fn 82; refine hcall.mono ?_; clear hcall; rintro e w4 ⟨rfl, d1, S4, hz4, hp4, hd4⟩)
                      have S5 : Aside (SWK enc k w0 g 0 d1 w4) := S4
                      have MD : Hid (Mid d d1 a i mid E b) := MID.out d1 hd4
                      have HP4 : Hid (d1.toList.Perm d.toList) := hp4
                      have HZ4 : Hid (d1.size = N) := hz4
                      clear S4 hz4 hp4 hd4
                      have M7 : Hid (Mrg d1 d1 a mid) := Mrg.same (by
                        by_cases hh : a < i
                        · have : i = mid := by omega
                          have h8 := MD.out.s1
                          rw [this] at h8; exact h8
                        · have : i = a := by omega
                          have h8 := MD.out.s2
                          rw [this] at h8; exact h8)
                      have T3 : Hid (Srt d1 mid E) := fun x y h h' h'' => by unfold ky; rw [M7.out.out x (Or.inr h), M7.out.out y (Or.inr (by omega))]; exact MD.out.s3 x y h h' h''
                      have T4 : Hid (Srt d1 E b) := fun x y h h' h'' => by unfold ky; rw [M7.out.out x (Or.inr (by omega)), M7.out.out y (Or.inr (by omega))]; exact MD.out.s4 x y h h' h''
                      have hcall := IH.out mid E b d1 w4 (by omega) HZ4.out (by omega) (by omega) hbN T3.out T4.out S5.out
                      clear S5 T3 T4
                      go_wp2_with (go_at_fn 79; refine hcall.mono ?_; clear hcall; rintro e w8 ⟨rfl, d3, S8, M8⟩)
                      have M9 : Hid (Mrg d1 d3 mid b) := M8
                      go_end0
                      exact ⟨rfl, d3, S8, HOUT.out _ _ _ MD.out HZ4.out HP4.out M7.out M9.out⟩
                    · skip
                      have f1 : (i : Int) < (m : Int) := by omega
                      have f2 : (m : Int) < (E : Int) := by omega
                      have f3 : ¬ (a : Int) < (i : Int) := by omega
                      have f4 : (i : Int) < (mid : Int) := by omega
                      have f5 : (mid : Int) < (E : Int) := by omega
                      have f6 : ¬ (E : Int) < (b : Int) := by omega
                      have hcall := HR.out i m E d wr hd kA (by omega) (by omega) S1.out
                      clear S1
                      go_wp2_with (go_at_fn 82; refine hcall.mono ?_; clear hcall; rintro e w4 ⟨rfl, d1, S4, hz4, hp4, hd4⟩)
                      have S5 : Aside (SWK enc k w0 g 0 d1 w4) := S4
                      have MD : Hid (Mid d d1 a i mid E b) := MID.out d1 hd4
                      have HP4 : Hid (d1.toList.Perm d.toList) := hp4
                      have HZ4 : Hid (d1.size = N) := hz4
                      clear S4 hz4 hp4 hd4
                      have M7 : Hid (Mrg d1 d1 a mid) := Mrg.same (by
                        by_cases hh : a < i
                        · have : i = mid := by omega
                          have h8 := MD.out.s1
                          rw [this] at h8; exact h8
                        · have : i = a := by omega
                          have h8 := MD.out.s2
                          rw [this] at h8; exact h8)
                      have T3 : Hid (Srt d1 mid E) := fun x y h h' h'' => by unfold ky; rw [M7.out.out x (Or.inr h), M7.out.out y (Or.inr (by omega))]; exact MD.out.s3 x y h h' h''
                      have T4 : Hid (Srt d1 E b) := fun x y h h' h'' => by unfold ky; rw [M7.out.out x (Or.inr (by omega)), M7.out.out y (Or.inr (by omega))]; exact MD.out.s4 x y h h' h''
                      have M9 : Hid (Mrg d1 d1 mid b) := Mrg.same (by
                        by_cases hh : mid < E
                        · have : E = b := by omega
                          have h8 := T3.out
                          rw [this] at h8; exact h8
                        · have : E = mid := by omega
                          have h8 := T4.out
                          rw [this] at h8; exact h8)
                      go_end0
                      exact ⟨rfl, d1, S5.out, HOUT.out _ _ _ MD.out HZ4.out HP4.out M7.out M9.out⟩
                · skip
                  by_cases kC : a < i
                  · skip
                    by_cases kD : E < b
                    · skip
                      exfalso; omega
                    · skip
                      exfalso; omega
                  · skip
                    by_cases kD : E < b
                    · skip
                      exfalso; omega
                    · skip
                      exfalso; omega
              · skip
                by_cases kB : i < mid
                · skip
                  by_cases kC : a < i
                  · skip
                    by_cases kD : E < b
                    · skip
                      have f1 : ¬ (i : Int) < (m : Int) := by omega
                      have f2 : (m : Int) < (E : Int) := by omega
                      have f3 : (a : Int) < (i : Int) := by omega
                      have f4 : (i : Int) < (mid : Int) := by omega
                      have f5 : ¬ (mid : Int) < (E : Int) := by omega
                      have f6 : (E : Int) < (b : Int) := by omega
                      have MD : Hid (Mid d d a i mid E b) := MDS.out (by omega)
                      have hcall := IH.out a i mid d wr (by omega) hd kC kB (by omega) MD.out.s1 MD.out.s2 S1.out
                      clear S1
                      go_wp2_with (go_at_fn 79; refine hcall.mono ?_; clear hcall; rintro e w6 ⟨rfl, d2, S6, M6⟩)
                      have S7 : Aside (SWK enc k w0 g 0 d2 w6) := S6
                      have M7 : Hid (Mrg d d2 a mid) := M6
                      have H7 : Hid (d2.size = N) := by show _ = _; rw [M6.size]; exact hd
                      clear S6 M6
                      have T3 : Hid (Srt d2 mid E) := fun x y h h' h'' => by unfold ky; rw [M7.out.out x (Or.inr h), M7.out.out y (Or.inr (by omega))]; exact MD.out.s3 x y h h' h''
                      have T4 : Hid (Srt d2 E b) := fun x y h h' h'' => by unfold ky; rw [M7.out.out x (Or.inr (by omega)), M7.out.out y (Or.inr (by omega))]; exact MD.out.s4 x y h h' h''
                      have M9 : Hid (Mrg d2 d2 mid b) := Mrg.same (by
                        by_cases hh : mid < E
                        · have : E = b := by omega
                          have h8 := T3.out
                          rw [this] at h8; exact h8
                        · have : E = mid := by omega
                          have h8 := T4.out
                          rw [this] at h8; exact h8)
                      go_end0
                      exact ⟨rfl, d2, S7.out, HOUT.out _ _ _ MD.out hd (List.Perm.refl _) M7.out M9.out⟩
                    · skip
                      exfalso; omega
                  · skip
                    by_cases kD : E < b
                    · skip
                      exfalso; omega
                    · skip
                      exfalso; omega
                · skip
                  by_cases kC : a < i
                  · skip
                    by_cases kD : E < b
                    · skip
                      have f1 : ¬ (i : Int) < (m : Int) := by omega
                      have f2 : ¬ (m : Int) < (E : Int) := by omega
                      have f3 : (a : Int) < (i : Int) := by omega
                      have f4 : ¬ (i : Int) < (mid : Int) := by omega
                      have f5 : ¬ (mid : Int) < (E : Int) := by omega
                      have f6 : (E : Int) < (b : Int) := by omega
                      have MD : Hid (Mid d d a i mid E b) := MDS.out (by omega)
                      have M7 : Hid (Mrg d d a mid) := Mrg.same (by
                        by_cases hh : a < i
                        · have : i = mid := by omega
                          have h8 := MD.out.s1
                          rw [this] at h8; exact h8
                        · have : i = a := by omega
                          have h8 := MD.out.s2
                          rw [this] at h8; exact h8)
                      have T3 : Hid (Srt d mid E) := fun x y h h' h'' => by unfold ky; rw [M7.out.out x (Or.inr h), M7.out.out y (Or.inr (by omega))]; exact MD.out.s3 x y h h' h''
                      have T4 : Hid (Srt d E b) := fun x y h h' h'' => by unfold ky; rw [M7.out.out x (Or.inr (by omega)), M7.out.out y (Or.inr (by omega))]; exact MD.out.s4 x y h h' h''
                      have M9 : Hid (Mrg d d mid b) := Mrg.same (by
                        by_cases hh : mid < E
                        · have : E = b := by omega
                          have h8 := T3.out
                          rw [this] at h8; exact h8
                        · have : E = mid := by omega
                          have h8 := T4.out
                          rw [this] at h8; exact h8)
                      go_wp2
                      go_end0
                      exact ⟨rfl, d, S1.out, HOUT.out _ _ _ MD.out hd (List.Perm.refl _) M7.out M9.out⟩
                    · skip
                      exfalso; omega
                  · skip
                    by_cases kD : E < b
                    · skip
                      exfalso; omega
                    · skip
                      exfalso; omega

end Go.Proofs.Ytbjpkklonjlmiaa
