/- What chapter 7 draws: two texts. -/
import Derived.Test.YtnfoflijapbkdaaD7
import Derived.Deep.RegionHeld3
import Derived.Deep.RegionWith
import Derived.Deep.DeepCutAuto
import Derived.Deep.Light
namespace Go.Proofs.Ytnfoflijapbkdaa
set_option linter.unusedVariables false
set_option maxRecDepth 1000000
set_option linter.unusedSimpArgs false
open Go.RowKit

set_option maxHeartbeats 2000000 in
theorem drawXor_c (ao : Option Addr) (n c : Nat) (w : World) (hn : n ≤ 9223372036854775807) (h : CodeOk w w.heap.size ao n) :
    Calls Try.prog 29 #[.slice ao n c] w fun e w' => ∃ s t : ByteArray, e = .returned (.tuple #[.string s, .string t]) ∧ s.size ≤ 100 ∧ t.size ≤ 100 ∧ Below w.heap.size w w' := by
  have C0 : Hid (Cur (w.alloc (.cells #[.slice ao n c, .int .i64 0, .int .u64 0] 62)) w.heap.size ao n c 0) := cur_new _ hn h
  have G0 : Hid (GB w.heap.size w (w.alloc (.cells #[.slice ao n c, .int .i64 0, .int .u64 0] 62))) := (GB.refl _ _).alloc _
  have HOld : Hid (Old ao n w.heap.size) := h.old
  have hlit := lit_cells (fun x => 0 ≤ x ∧ x ≤ 41) (w.alloc (.cells #[.slice ao n c, .int .i64 0, .int .u64 0] 62)) #[.int .i64 0, .int .i64 3, .int .i64 24, .int .i64 40, .int .i64 41] 3 5 rfl (by simp [allP])
  have hsz : (w.alloc (.cells #[.slice ao n c, .int .i64 0, .int .u64 0] 62)).heap.size = w.heap.size + 1 := by simp
  rw [hsz] at hlit
  clear h
  go_enter Try.func29, Try.ntmps29
  go_wp2_with fail
  refine (among_p (fun x => 0 ≤ x ∧ x ≤ 41) w.heap.size ao n c 0 (w.heap.size + 1) 5 _ (by omega) (by omega) hlit (by omega) (C0.out.alloc _)).mono ?_
  rintro e w1 ⟨z, rfl, hz, hc1, hg1⟩
  obtain ⟨q, rfl⟩ : ∃ q : Nat, z = q := ⟨z.toNat, by omega⟩
  have hq : q ≤ 41 := by omega
  have C1 : Hid (Cur w1 w.heap.size ao n c 2) := hc1
  have G1 : Hid (GB w.heap.size w w1) := (G0.out.alloc _).trans hg1
  obtain ⟨M, hmk, hrow⟩ := make_run q (by omega)
  have hmk1 := hmk w1
  have R1 : Hid (RowB (w1.alloc (.cells M 5)) w1.heap.size (zeros q)) := hrow w1
  have hS1 : w.heap.size < w1.heap.size := C1.out.lt
  have C2 : Hid (Cur (w1.alloc (.cells M 5)) w.heap.size ao n c 2) := C1.out.alloc _
  have G2 : Hid (GB w.heap.size w (w1.alloc (.cells M 5))) := G1.out.alloc _
  clear hc1 hg1 C0 G0 hlit hsz hmk hrow hz C1 G1
  go_wp2
  go_loopw [18] (fun i wr => ∃ (k : Nat) (l : Bs), k ≤ q ∧ i = .int .i64 k ∧ Hid (l.length = q) ∧ Hid (RowB wr w1.heap.size l) ∧ Hid (Cur wr w.heap.size ao n c (2 + 2 * k)) ∧ Hid (GB w.heap.size w wr)) (fun i _ => q - (intOf i).toNat)
  case atStart => exact ⟨0, zeros q, Nat.zero_le _, rfl, by show _ = _; simp [zeros], R1, C2, G2⟩
  case round =>
    clear R1 C2 G2 hmk1
    obtain ⟨k, l, hk, rfl, HL, hR, hC, hG⟩ := hrel
    by_cases hlt : k < q
    · go_wp2_with fail
      refine (pick_c w.heap.size ao n c _ 256 _ (by omega) (by omega) hC.out).mono ?_
      rintro e wa ⟨x, rfl, hx0, hx1, hc1, hg1⟩
      obtain ⟨X, rfl⟩ : ∃ X : Nat, x = X := ⟨x.toNat, by omega⟩
      have hRa : RowB wa w1.heap.size l := hR.out.kept hg1 (by omega)
      have a1 := hRa.1 k (by rw [HL.out]; exact hlt)
      have a2 := hRa.2 k (by rw [HL.out]; exact hlt)
      have hset := hRa.set (k := k) (by rw [HL.out]; exact hlt) (UInt8.ofNat X)
      rw [show (UInt8.ofNat X).toNat = X by rw [UInt8.toNat_ofNat']; omega] at hset
      have HSET : Hid (RowB (wa.setCell ⟨w1.heap.size, k, none⟩ (.int .u8 (X : Int))) w1.heap.size (l.set k (UInt8.ofNat X))) := hset
      have hgr := grown_setCell wa w1.heap.size k (.int .u8 (X : Int))
      have hGa : GB w.heap.size w wa := hG.out.trans hg1
      have HC2 : Hid (Cur (wa.setCell ⟨w1.heap.size, k, none⟩ (.int .u8 (X : Int))) w.heap.size ao n c (2 + 2 * k + 2)) := hc1.grown (B := w1.heap.size) hgr (fun k' e => by simp at e; omega) hS1 (old_mono HOld.out (by omega))
      have HG2 : Hid (GB w.heap.size w (wa.setCell ⟨w1.heap.size, k, none⟩ (.int .u8 (X : Int)))) := hGa.grown hgr (fun k' e => by simp at e; omega)
      have px : (X : Int) % 256 = (X : Int) := by omega
      have h0 : (0 : Int) ≤ (k : Int) := by omega
      have h1 : (k : Int) < (q : Int) := by omega
      generalize bN l k = y at a1
      clear hset hgr hGa hc1 hg1 hR hC hG hRa
      go_wp2
      go_roundw
      case rel => exact ⟨k + 1, l.set k (UInt8.ofNat X), by omega, by go_num, by show _ = _; rw [List.length_set]; exact HL.out, HSET, HC2.out.mono (by omega), HG2⟩
      case measure => simp [intOf]; omega
    · obtain rfl : k = q := by omega
      have hRd : RowB wr.drew w1.heap.size l := hR.out.later (Below.refl _ _).drew
      have hcb := hRd.text k k HL.out
      have HTX : Hid (∀ W : World, RowB W w1.heap.size l → (convert 22 9 (.slice (some ⟨w1.heap.size, 0, none⟩) k k)).run Try.prog W = .ok (.string (tx l)) W) := fun W h => h.text k k HL.out
      have HSZ : Hid ((tx l).size ≤ 100) := by show _ ≤ _; rw [tx_size, HL.out]; omega
      have HRD : Hid (RowB wr.drew w1.heap.size l) := hRd
      have HCD : Hid (Cur wr.drew w.heap.size ao n c (2 + 2 * k)) := hC.out.later (Below.refl _ _).drew
      have HGD : Hid (GB w.heap.size w wr.drew) := hG.out.drew
      obtain ⟨tl, htl⟩ : ∃ tl, tx l = tl := ⟨_, rfl⟩
      rw [htl] at hcb HTX HSZ
      clear hRd htl hR hC hG
      go_wp2_with fail
      go_region_with (first | (go_at_call 61; refine (pick_c w.heap.size ao n c _ 9 _ (by omega) (by omega) HCD.out).mono ?_; rintro e wp ⟨x, rfl, hx0, hx1, hc1, hg1⟩; have HGP : Hid (GB w.heap.size w wp) := HGD.out.trans hg1; have hRp : RowB wp w1.heap.size l := HRD.out.kept hg1 (by omega); have hcp1 := HTX.out _ hRp; obtain ⟨X, rfl⟩ : ∃ X : Nat, x = X := ⟨x.toNat, by omega⟩; obtain ⟨K8, e8, h8⟩ : ∃ K8 : Nat, IntKind.i64.wrap ((k : Int) + IntKind.i64.wrap ((X : Int) / 8)) = (K8 : Int) ∧ K8 ≤ 42 := ⟨k + X / 8, (by rw [IntKind.wrap_i64, IntKind.wrap_i64]; omega), (by omega)⟩; obtain ⟨M2, hmk2, hrow2⟩ := make_run K8 (by omega); have hm2 := hmk2 wp; have hcm := (hrow2 wp).text K8 K8 (by simp [zeros]); have hcp2 := HTX.out _ (hRp.later (balloc wp (.cells M2 5))); obtain ⟨tz, htz⟩ : ∃ tz, tx (zeros K8) = tz := ⟨_, rfl⟩; have HZ8 : Hid (tz.size ≤ 100) := (by show _ ≤ _; rw [← htz, zeros_size]; omega); rw [htz] at hcm; clear hmk2 hrow2 htz hc1 hg1 hRp))
      all_goals go_wp2
      all_goals refine bodyPost_ret (v := .tuple #[.string tz, .string tl]) (by simp [results, Try.results29, go_sem]; try rfl) rfl ?_
      all_goals exact ⟨tz, tl, rfl, HZ8.out, HSZ.out, (by repeat (first | exact HGP.out.below (Nat.le_refl _) (Nat.le_refl _) | refine Below.drew ?_ | refine Below.alloc ?_ (by first | exact Nat.le_trans (Nat.le_refl _) HGP.out.size | (simp; done) | (simp; omega)) _))⟩

end Go.Proofs.Ytnfoflijapbkdaa
