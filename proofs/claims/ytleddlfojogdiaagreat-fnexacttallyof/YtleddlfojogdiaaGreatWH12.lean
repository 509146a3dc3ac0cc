/- Chapter 12: whoSayRefused: the keys, sorted, of those that said so. -/
import Derived.Test.YtleddlfojogdiaaGreatDC12
import Derived.Test.YtleddlfojogdiaaGreatSK12
import Derived.Test.YtleddlfojogdiaaGreatAP12
namespace Go.Proofs.YtleddlfojogdiaaGreat
set_option linter.unusedVariables false
set_option maxRecDepth 1000000
set_option linter.unusedSimpArgs false
open Go.RowKit Go.Maps

set_option maxHeartbeats 4000000 in
theorem whoSay_c (b n : Nat) (g : Te) (w : World) (h : MT w b n g) (hn : n ≤ 100) (hk : keysOk g) (q : Nat) (hq : ((([0, 1, 2, 3, 4, 5, 6] : List Int).filter fun x => (g x).isSome).filter (saysB g)).length = q) :
    Calls Tryz.prog 78 #[.map (some b)] w fun e w' => ∃ a' c', e = .returned (.slice a' q c') ∧ Own w' w.heap.size (.slice a' q c') ((([0, 1, 2, 3, 4, 5, 6] : List Int).filter fun x => (g x).isSome).filter (saysB g)) ∧ Below w.heap.size w w' := by
  have HM : Hid (MT w b n g) := h
  have HK : Hid (∀ x ∈ (([0, 1, 2, 3, 4, 5, 6] : List Int).filter fun x => (g x).isSome), (Lit.int .i64 x).wf = true) := fun x hx => by
    have := hk x (List.mem_filter.1 hx).2
    exact wf_small this.1 this.2
  have HL7 : Hid ((([0, 1, 2, 3, 4, 5, 6] : List Int).filter fun x => (g x).isSome).length ≤ 7) := List.length_filter_le _ _
  have cS := sortedT_c b n g w h hn hk
  clear h
  generalize (([0, 1, 2, 3, 4, 5, 6] : List Int).filter fun x => (g x).isSome) = ks at cS HK HL7 hq ⊢
  have HQ : Hid ((ks.filter (saysB g)).length = q) := hq
  clear hq
  go_enter Tryz.func78, Tryz.ntmps78
  go_wp2_with fail
  refine (keysT_c _ _).mono ?_
  rintro e w' ⟨rfl, rfl⟩
  go_wp2_with fail
  refine cS.mono ?_
  clear cS
  rintro e w1 ⟨v, rfl, ho, hb⟩
  obtain ⟨ka, kc, hv⟩ := ho.shape
  obtain ⟨m, hm⟩ : ∃ m, ks.length = m := ⟨_, rfl⟩
  rw [hm] at hv
  subst hv
  have HO0 : Hid (Own w1 w.heap.size (.slice ka m kc) ks) := ho
  have HB0 : Hid (Below w.heap.size w w1) := hb
  have HKM : Hid (ks.length = m) := hm
  have hm7 : m ≤ 7 := by have := HL7.out; rw [HKM.out] at this; exact this
  clear ho hb hm HL7
  go_wp2
  go_loopw [3, 10] (fun v iv wr => ∃ j : Nat, j ≤ m ∧ iv = .int .i64 j ∧ Hid (Own wr w1.heap.size v ((ks.take j).filter (saysB g))) ∧ Hid (Below w1.heap.size w1 wr)) (fun _ iv _ => m - iv12 iv)
  case atStart => exact ⟨0, Nat.zero_le _, rfl, own_nilI _ _, Below.refl _ _⟩
  case round =>
    obtain ⟨j, hj, rfl, hO, hB⟩ := hrel
    by_cases hlt : j < m
    · have hjl : j < ks.length := by rw [HKM.out]; exact hlt
      obtain ⟨b0, o0, rfl, g0⟩ := (HO0.out.rd'.2.later hB.out).get hjl
      have HT := take_snocT (d := (0 : Int)) hjl
      have hwx := HK.out _ (mem_getD (0 : Int) hjl)
      generalize ks.getD j 0 = x at g0 HT hwx
      have HMr : MT wr b n g := (HM.out.later HB0.out).later hB.out
      obtain ⟨p, hp⟩ : ∃ p, (g x).getD (0, 0) = p := ⟨_, rfl⟩
      have hlk := HMr.look hwx hp
      clear HMr
      have HF : Hid ((ks.take (j + 1)).filter (saysB g) = if 0 < p.1 then (ks.take j).filter (saysB g) ++ [x] else (ks.take j).filter (saysB g)) := by
        show _ = _
        rw [HT, List.filter_append]
        have : saysB g x = decide (0 < p.1) := by unfold saysB; rw [hp]
        by_cases hpp : 0 < p.1 <;> simp [this, hpp]
      clear HT hp hjl
      obtain ⟨pa, pt⟩ := p
      simp only at hlk HF
      have k0 : (0 : Int) ≤ (j : Int) := by omega
      have k1 : (j : Int) < (m : Int) := by omega
      have hL : ((ks.take j).filter (saysB g)).length ≤ 7 := by
        have h1 := List.length_filter_le (saysB g) (ks.take j)
        have h2 : (ks.take j).length ≤ j := by rw [List.length_take]; omega
        omega
      generalize (ks.take j).filter (saysB g) = out at hO HF hL
      obtain ⟨a', c', hv⟩ := hO.out.shape
      obtain ⟨r, hr⟩ : ∃ r, out.length = r := ⟨_, rfl⟩
      rw [hr] at hv hL
      subst hv
      have HOP : Hid (out.length = r) := hr
      clear hr
      have hfd : ∀ wx, (Instr.field 119 (.agg #[.int .i64 pa, .int .i64 pt]) 0).run Tryz.prog wx = .ok (.int .i64 pa) wx := fun wx => rfl
      by_cases hpp : 0 < pa
      · have HF2 : Hid ((ks.take (j + 1)).filter (saysB g) = out ++ [x]) := by have := HF.out; rw [if_pos hpp] at this; exact this
        have bA := balloc wr (.cells #[.int .i64 x] 3)
        obtain ⟨v', w5, r1, o5, g5, b5⟩ := appendI_run (wr.alloc (.cells #[.int .i64 x] 3)) w1.heap.size (.slice a' r c') out [x] (some ⟨wr.heap.size, 0, none⟩) 1 1 (hO.out.later bA) (litI wr _) rfl (fun h => by cases h) (by rw [HOP.out]; simp; omega) (by have := hB.out.size; have := bA.size; omega)
        have HO5 : Hid (Own w5 w1.heap.size v' (out ++ [x])) := o5
        have HB5 : Hid (Below w1.heap.size w1 w5) := (hB.out.trans (bA.mono hB.out.size)).trans b5
        clear bA o5 g5 b5 hO hB HF
        go_wp2_with (at_builtin; refine Lib.wpList_append_run _ rfl _ _ _ _ rfl _ _ rfl rfl _ _ (r1 _) ?_; clear r1)
        go_roundw
        case rel => exact ⟨j + 1, by omega, by go_num, by show Own _ _ _ _; rw [HF2.out]; exact HO5.out, HB5⟩
        case measure => simp [iv12]; omega
      · have HF2 : Hid ((ks.take (j + 1)).filter (saysB g) = out) := by have := HF.out; rw [if_neg hpp] at this; exact this
        clear HF
        go_wp2
        go_roundw
        case rel => exact ⟨j + 1, by omega, by go_num, by show Own _ _ _ _; rw [HF2.out]; exact hO.out, hB⟩
        case measure => simp [iv12]; omega
    · obtain rfl : m = j := by omega
      have he : ks.take m = ks := List.take_of_length_le (by rw [HKM.out]; exact Nat.le_refl _)
      rw [he] at hO
      have hx : ¬ (m : Int) < (m : Int) := by omega
      obtain ⟨a', c', hv⟩ := hO.out.shape
      rw [HQ.out] at hv
      subst hv
      go_wp2
      go_ret
      exact ⟨a', c', rfl, hO.out.mono HB0.out.size, HB0.out.trans (hB.out.mono HB0.out.size)⟩

end Go.Proofs.YtleddlfojogdiaaGreat
