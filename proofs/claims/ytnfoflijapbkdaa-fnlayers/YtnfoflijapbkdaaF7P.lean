/- Chapter 7: what is built is walked and peeled as it was built; boxes and lists compared. -/
import Derived.Test.YtnfoflijapbkdaaW7
import Derived.Test.YtnfoflijapbkdaaBI7
import Derived.ChangeKeysEq
import Derived.Laws.StructEq
namespace Go.Proofs.Ytnfoflijapbkdaa
set_option linter.unusedVariables false
set_option maxRecDepth 1000000
set_option linter.unusedSimpArgs false
open Go.RowKit

theorem peelF_put {k h : Int} {r s : Bs} {m : Nat} (hk : blockB k = true) (hs : s.length = 24) (hr : r.length = 24) (hm : 18 ≤ m) (hm2 : m ≤ 24) (ht : r.take m = (putB (padU k) (UInt8.ofNat h.toNat) s).take m) (h1 : 1 ≤ h) (h2 : h ≤ 250) :
    ∃ r', peelF k (tx r) = some ⟨h.toNat, r', (unpadB (s.take 16)).getD []⟩ ∧ r'.length = 24 ∧ r'.take (m - 2) = s.take (m - 2) := by
  have hb : (UInt8.ofNat h.toNat).toNat = h.toNat := byte_of (by omega)
  obtain ⟨r', e1, e2, e3⟩ := peel_put (padU_length hk) hs hr hm hm2 ht (by rw [hb]; omega) (by rw [hb]; omega)
  refine ⟨r', ?_, e2, e3⟩
  rw [peelF_yes hk (by rw [tx_size]; exact hr), bl_tx, e1, hb]
theorem layersL_cons (k h : Int) (ks hs : List Int) : layersL (k :: ks) (h :: hs) = (padU k, UInt8.ofNat h.toNat) :: layersL ks hs := rfl
theorem allIn_cons {lo hi x : Int} {xs : List Int} (h : allIn lo hi (x :: xs) = true) : (lo ≤ x ∧ x ≤ hi) ∧ allIn lo hi xs = true := by
  simpa [allIn, inB] using h

theorem walkS_build {b : Bs} (hb : b.length < 16) : ∀ (ks hs : List Int) (m : Nat) (r : Bs) (b0 : ByteArray) (out : List Int), hs.length = ks.length → allIn 0 65535 ks = true → allIn 1 250 hs = true → r.length = 24 → m ≤ 24 → 16 + 2 * ks.length ≤ m → r.take m = (buildB (layersL ks hs) b).take m →
    (ks = [] → b0 = tx b) → ∃ r', walkS ks (out, tx r, b0) = some (out ++ hs, r', tx b)
  | [], hs, m, r, b0, out, hl, _, _, _, _, _, _, h => by
    obtain rfl : hs = [] := List.length_eq_zero_iff.1 hl
    exact ⟨tx r, by rw [walkS, h rfl, List.append_nil]⟩
  | k :: ks, [], m, r, b0, out, hl, _, _, _, _, _, _, _ => by simp at hl
  | k :: ks, h :: hs, m, r, b0, out, hl, ha, hh, hr, hm, hm2, ht, _ => by
    obtain ⟨hk, ha⟩ := allIn_cons ha
    obtain ⟨hhk, hh⟩ := allIn_cons hh
    simp only [List.length_cons] at hm2 hl
    have hbk : blockB k = true := by unfold blockB; exact decide_eq_true hk
    have hbl := buildB_length hb (layersL ks hs) (layers_pads ha)
    rw [layersL_cons, buildB] at ht
    obtain ⟨r', e1, e2, e3⟩ := peelF_put hbk hbl hr (by omega) hm ht hhk.1 hhk.2
    have hbody : ks = [] → tx ((unpadB ((buildB (layersL ks hs) b).take 16)).getD []) = tx b := by
      rintro rfl
      obtain rfl : hs = [] := List.length_eq_zero_iff.1 (by simpa using hl)
      show tx ((unpadB ((padB b ++ zeros 8).take 16)).getD []) = tx b
      rw [List.take_append_of_le_length (by rw [padB_length hb]; exact Nat.le_refl _), List.take_of_length_le (by rw [padB_length hb]; exact Nat.le_refl _), unpad_pad b hb]
      rfl
    obtain ⟨r2, e4⟩ := walkS_build hb ks hs (m - 2) r' _ (out ++ [((h.toNat : Nat) : Int)]) (by omega) ha hh e2 (by omega) (by omega) e3 hbody
    refine ⟨r2, ?_⟩
    rw [walkS, e1]
    simp only
    rw [e4, Int.toNat_of_nonneg (by omega)]
    simp

/-- What is built with keys and hops is walked as it was built, and its first layer tells the first hop. -/
theorem build_walk {ks hs : List Int} {s t : ByteArray} (h : buildF ks hs s = (t, true)) : walkF ks t = (hs, s, true) ∧ t.size = 24 ∧ hs.length = ks.length ∧ 1 ≤ ks.length ∧ ks.length ≤ 4 ∧ ∃ rest bd, peelR (peelF (ks.getD 0 0) t) = (hs.getD 0 0, rest, bd, true) ∧ rest.size = 24 := by
  unfold buildF at h
  by_cases hg : buildG ks hs s = true
  · rw [if_pos hg] at h
    have ht := (Prod.mk.inj h).1
    unfold buildG at hg
    simp only [Bool.and_eq_true, decide_eq_true_eq] at hg
    obtain ⟨⟨h1, h4⟩, ha, hl, hh, hs16⟩ := hg
    have hb : (bl s).length < 16 := by rw [bl_length]; exact hs16
    have hbl := buildB_length hb (layersL ks hs) (layers_pads ha)
    subst ht
    obtain ⟨r', e⟩ := walkS_build hb ks hs 24 (buildB (layersL ks hs) (bl s)) ByteArray.empty [] hl ha hh hbl (by omega) (by omega) rfl (fun e => by rw [e] at h1; simp at h1)
    refine ⟨?_, by rw [tx_size, hbl], hl, h1, h4, ?_⟩
    · unfold walkF
      rw [if_pos h4, e]
      show (_, _, _) = _
      rw [List.nil_append, tx_bl]
    · match ks, hs, hl, ha, hh, hbl, h1 with
      | k :: ks, h :: hs, hl, ha, hh, hbl, _ =>
        obtain ⟨hk, ha⟩ := allIn_cons ha
        obtain ⟨hhk, hh⟩ := allIn_cons hh
        have hbk : blockB k = true := by unfold blockB; exact decide_eq_true hk
        have hbl2 := buildB_length hb (layersL ks hs) (layers_pads ha)
        obtain ⟨r', e1, e2, e3⟩ := peelF_put (k := k) (h := h) (r := buildB (layersL (k :: ks) (h :: hs)) (bl s)) (m := 24) hbk hbl2 hbl (by omega) (by omega) rfl hhk.1 hhk.2
        refine ⟨tx r', tx ((unpadB ((buildB (layersL ks hs) (bl s)).take 16)).getD []), ?_, by rw [tx_size]; exact e2⟩
        show peelR (peelF k _) = (h, _, _, true)
        rw [e1]
        show (((h.toNat : Nat) : Int), tx r', _, true) = _
        rw [Int.toNat_of_nonneg (by omega)]
      | k :: ks, [], hl, _, _, _, _ => simp at hl
      | [], _, _, _, _, _, h1 => simp at h1
  · rw [if_neg hg] at h
    cases (Prod.mk.inj h).2

theorem Try.plainInt : Try.prog.plainKey 3 = true := by kernel_rfl
theorem Try.plainStr : Try.prog.plainKey 9 = true := by kernel_rfl

theorem run_eql_peeled (x : Int) (a b : ByteArray) (w : World) : (binOp .eql 31 (.agg #[.int .i64 x, .string a, .string b]) (.agg #[.int .i64 x, .string a, .string b])).run Try.prog w = .ok (.bool true) w := by
  have p0 : (part 3 #[.int .i64 x, .string a, .string b] 0).run Try.prog w = .ok (.int .i64 x) w := run_part_plain w Try.plainInt rfl
  have p1 : (part 9 #[.int .i64 x, .string a, .string b] 1).run Try.prog w = .ok (.string a) w := run_part_plain w Try.plainStr rfl
  have p2 : (part 9 #[.int .i64 x, .string a, .string b] 2).run Try.prog w = .ok (.string b) w := run_part_plain w Try.plainStr rfl
  rw [run_eql_struct, run_equalIn_struct w 9999 31 _ _ (by kernel_rfl) (by kernel_rfl)]
  simp only [Program.fieldsOf, Try.underlying31, Op.eqFields]
  simp [p0, p1, p2, run_equalIn_int w 9998 3 .i64 .i64 _ _ Try.underlying3, run_equalIn_string w 9998 9 _ _ Try.underlying9]

set_option maxHeartbeats 400000 in
/-- Two lists that read the same: nothing turns but the count of draws. -/
theorem sameInts_q (ao bo : Option Addr) (n c d : Nat) (xs : List Int) (w : World) (hx : xs.length = n) (hn : n ≤ 140737488355328) (hr : Rd w ao xs) (hs : Rd w bo xs) :
    Calls Try.prog 18 #[.slice ao n c, .slice bo n d] w fun e w' => e = .returned (.bool true) ∧ ∃ q, w' = w.drewN q := by
  have HX : Hid (xs.length = n) := hx
  have HR : Hid (Rd w ao xs) := hr
  have HS : Hid (Rd w bo xs) := hs
  have hnn : ((n : Int) != (n : Int)) = false := by simp
  clear hx hr hs
  go_enter Try.func18, Try.ntmps18
  go_wp2
  go_loopw [13] (fun i wr => ∃ k q : Nat, k ≤ n ∧ i = .int .i64 k ∧ Hid (wr = w.drewN q)) (fun i _ => n - (intOf i).toNat)
  case atStart => exact ⟨0, 0, Nat.zero_le _, rfl, rfl⟩
  case round =>
    obtain ⟨k, q, hk, rfl, HW⟩ := hrel
    by_cases hlt : k < n
    · have hb : Below w.heap.size w wr := by rw [HW.out]; exact below_drewN (Below.refl _ _) q
      obtain ⟨b1, o1, rfl, g1⟩ := Rd.get (HR.out.later hb) (k := k) (by rw [HX.out]; exact hlt)
      obtain ⟨b2, o2, rfl, g2⟩ := Rd.get (HS.out.later hb) (k := k) (by rw [HX.out]; exact hlt)
      generalize xs.getD k 0 = x at g1 g2
      have ht : (x != x) = false := by simp
      have h0 : (0 : Int) ≤ (k : Int) := by omega
      have hl : (k : Int) < (n : Int) := by omega
      clear hb
      go_wp2
      go_quiet (fail)
      go_wp2
      go_roundw
      case rel => exact ⟨k + 1, q + nq, by omega, by go_num, by show _ = _; rw [HW.out, World.drewN_drewN]⟩
      case measure => simp [intOf]; omega
    · go_wp2
      go_ret
      exact ⟨rfl, q, HW.out⟩

end Go.Proofs.Ytnfoflijapbkdaa
