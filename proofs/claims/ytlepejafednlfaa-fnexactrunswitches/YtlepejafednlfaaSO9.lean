/- Chapter 9: the switches of the program, made of settings. -/
import Derived.Test.YtlepejafednlfaaSX9
import Derived.Test.YtlepejafednlfaaC9
namespace Go.Proofs.Ytlepejafednlfaa
set_option linter.unusedVariables false
set_option maxRecDepth 1000000
set_option linter.unusedSimpArgs false
open Go.RowKit

/-- The switches of 2 to the d ports whose settings lie from o on. -/
def swV : Nat → Nat → Nat → Nat → List Bool → Value
  | 0, _, _, _, _ => .iface 93 (.agg #[])
  | 1, _, _, _, s => .iface 94 (.bool (s.getD 0 false))
  | d + 2, b, o, c, s => .iface 96 (.agg #[.slice (some ⟨b, o, none⟩) (2 ^ (d + 1)) c,
      swV (d + 1) b (o + 2 ^ (d + 1)) (c - 2 ^ (d + 1)) ((s.drop (2 ^ (d + 1))).take (cntD (d + 1))),
      swV (d + 1) b (o + (2 ^ (d + 1) + cntD (d + 1))) (c - (2 ^ (d + 1) + cntD (d + 1))) ((s.drop (2 ^ (d + 1) + cntD (d + 1))).take (cntD (d + 1))),
      .slice (some ⟨b, o + (2 ^ (d + 1) + 2 * cntD (d + 1)), none⟩) (2 ^ (d + 1)) (c - (2 ^ (d + 1) + 2 * cntD (d + 1)))])

theorem swV_iface : ∀ (d b o c : Nat) (s : List Bool), ∃ t x, swV d b o c s = .iface t x
  | 0, _, _, _, _ => ⟨_, _, rfl⟩
  | 1, _, _, _, _ => ⟨_, _, rfl⟩
  | _ + 2, _, _, _, _ => ⟨_, _, rfl⟩

def SwOk (H N d : Nat) : Prop := ∀ (b o c : Nat) (s : List Bool) (w : World), RdBits w b o N s → N ≤ c → c ≤ maxLen →
  Calls Try.prog 70 #[.int .i64 H, .slice (some ⟨b, o, none⟩) N c] w fun e w' => e = .returned (swV d b o c s) ∧ ∃ m, w' = w.drewN m

theorem mk93 (x : Value) (w : World) : (Instr.makeInterface 93 x).run Try.prog w = .ok (.iface 93 x) w := run_makeInterface w _ x (by kernel_rfl)
theorem mk94 (x : Value) (w : World) : (Instr.makeInterface 94 x).run Try.prog w = .ok (.iface 94 x) w := run_makeInterface w _ x (by kernel_rfl)
theorem mk96 (x : Value) (w : World) : (Instr.makeInterface 96 x).run Try.prog w = .ok (.iface 96 x) w := run_makeInterface w _ x (by kernel_rfl)

set_option maxHeartbeats 2000000 in
theorem switchesOf_1 (ao : Option Addr) (c : Nat) (s : List Bool) (w : World) :
    Calls Try.prog 70 #[.int .i64 1, .slice ao 0 c] w fun e w' => e = .returned (swV 0 0 0 0 s) ∧ w' = w := by
  have h93 := mk93
  go_enter Try.func70, Try.ntmps70
  go_wp2
  go_ret
  exact ⟨rfl, rfl⟩

set_option maxHeartbeats 2000000 in
theorem switchesOf_2 : SwOk 2 1 1 := by
  intro b o c s w hb hc1 hc2
  have h94 := mk94
  have t3 := hb.2 0 (by omega)
  rw [swV]
  generalize s.getD 0 false = sb at t3
  simp only [Nat.add_zero] at t3
  clear hb
  go_enter Try.func70, Try.ntmps70
  go_wp2
  go_ret
  exact ⟨rfl, 0, rfl⟩

set_option maxHeartbeats 8000000 in
theorem switchesOf_step (d H N : Nat) (hH : 2 ^ (d + 1) = H) (hN : cntD (d + 1) = N) (hHN : HN H N) (ih : SwOk H N (d + 1)) : SwOk (2 * H) (2 * H + 2 * N) (d + 2) := by
  intro b o c s w hb hc1 hc2
  have h96 := mk96
  unfold HN at hHN
  have hpH : portsB (H : Int) = true := by rcases hHN with h | h <;> (rw [h.1]; rfl)
  have hcH : cntI (H : Int) = (N : Int) := by rcases hHN with h | h <;> (rw [h.1, h.2]; rfl)
  have qC := switchesFor_c (H : Int) hpH
  rw [hcH] at qC
  rw [swV, hH, hN]
  have HQ1 : Hid (∀ m, Calls Try.prog 70 #[.int .i64 H, .slice (some ⟨b, o + H, none⟩) N (c - H)] (w.drewN m) fun e w' => e = .returned (swV (d + 1) b (o + H) (c - H) ((s.drop H).take N)) ∧ ∃ m', w' = (w.drewN m).drewN m') := fun m => ih b (o + H) (c - H) ((s.drop H).take N) (w.drewN m) ((hb.part H N (by omega)).later (below_drewN (Below.refl _ _) _)) (by omega) (by omega)
  have HQ2 : Hid (∀ m, Calls Try.prog 70 #[.int .i64 H, .slice (some ⟨b, o + (H + N), none⟩) N (c - (H + N))] (w.drewN m) fun e w' => e = .returned (swV (d + 1) b (o + (H + N)) (c - (H + N)) ((s.drop (H + N)).take N)) ∧ ∃ m', w' = (w.drewN m).drewN m') := fun m => ih b (o + (H + N)) (c - (H + N)) ((s.drop (H + N)).take N) (w.drewN m) ((hb.part (H + N) N (by omega)).later (below_drewN (Below.refl _ _) _)) (by omega) (by omega)
  obtain ⟨t1, x1, hv1⟩ := swV_iface (d + 1) b (o + H) (c - H) ((s.drop H).take N)
  obtain ⟨t2, x2, hv2⟩ := swV_iface (d + 1) b (o + (H + N)) (c - (H + N)) ((s.drop (H + N)).take N)
  rw [hv1] at HQ1 ⊢
  rw [hv2] at HQ2 ⊢
  clear hv1 hv2
  obtain ⟨M, hM⟩ : ∃ M, M = 2 * H := ⟨_, rfl⟩
  obtain ⟨n, hn⟩ : ∃ n, n = 2 * H + 2 * N := ⟨_, rfl⟩
  rw [← hn] at hc1 ⊢
  rw [← hM]
  have hMle : M ≤ 2 * H := by omega
  have hMge : 2 * H ≤ M := by omega
  have hnle : n ≤ 2 * H + 2 * N := by omega
  have hnge : 2 * H + 2 * N ≤ n := by omega
  have hH8 : H ≤ 4 := by omega
  have hH2 : 2 ≤ H := by omega
  have hN6 : N ≤ 6 ∧ 1 ≤ N := by omega
  have m1 : ((M : Int) == 1) = false := by rw [beq_eq_false_iff_ne]; omega
  have m2 : ((M : Int) == 2) = false := by rw [beq_eq_false_iff_ne]; omega
  have m3 : (M : Int) / 2 = (H : Int) := by omega
  have m4 : Int.tdiv (M : Int) 2 = (H : Int) := by rw [Int.tdiv_eq_ediv_of_nonneg (by omega)]; exact m3
  have hck : ¬ c = H := by omega
  have hck2 : ¬ c = H + N := by omega
  have hck4 : ¬ c = H + 2 * N := by omega
  have HC2 : Hid (c ≤ maxLen) := hc2
  unfold maxLen at hc2
  clear hb ih hH hN hpH hcH hM hn hHN
  go_enter Try.func70, Try.ntmps70
  go_wp2_with (go_at_call 72; refine (qC _).mono ?_; rintro e w' ⟨rfl, hw⟩; subst w')
  have r1 : H + N - H = N := by omega
  have r2 : H + N + N - (H + N) = N := by omega
  go_quiet ((go_at_call 70; first | (with_reducible exact Calls.quiet_of (HQ1.out _)) | (with_reducible exact Calls.quiet_of (HQ2.out _)) | (trace_state; fail)))
  go_wp2
  go_ret
  refine ⟨?_, _, rfl⟩
  show Ending.returned (Value.iface 96 (.agg #[.slice (some ⟨b, o, none⟩) H c, .iface t1 x1, .iface t2 x2, .slice (some ⟨b, o + (H + N + N), none⟩) (n - (H + N + N)) (c - (H + N + N))])) = _
  rw [show n - (H + N + N) = H by omega, show H + N + N = H + 2 * N by omega]

end Go.Proofs.Ytlepejafednlfaa
