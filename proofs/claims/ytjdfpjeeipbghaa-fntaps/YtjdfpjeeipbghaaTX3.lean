/- TextOf: the contracts, the program's and the specification's. -/
import Derived.Test.YtjdfpjeeipbghaaB3B
import Derived.Laws.BytesArg
import Derived.BigRegion
namespace Go.Proofs.Ytjdfpjeeipbghaa
set_option linter.unusedVariables false
set_option linter.unusedSimpArgs false
open Go.RowKit

theorem Try.infoByte : (Try.prog.info? 5).map (fun i => (i.zero, i.size, i.bytes)) = some (some (.int .u8 0), 1, 1) := by kernel_rfl
def cellsU (xs : List Int) : List Value := xs.map (Value.int .u8)
theorem cellsU_set (xs : List Int) (k : Nat) (x : Int) : (cellsU xs).set k (.int .u8 x) = cellsU (xs.set k x) := by simp [cellsU, List.map_set]
theorem getD_map_u8 (xs : List Int) (j : Nat) (h : j < xs.length) : (cellsU xs)[j]? = some (.int .u8 (xs.getD j 0)) := by
  unfold cellsU; simp [List.getD, h]

/-- The byte with bit j alone, from the top. -/
def mask (j : Nat) : Int := (128 / 2 ^ j : Nat)
/-- The bytes when k bits are in. -/
def txt (m : Nat) (xs : List Bool) : Nat → List Int
  | 0 => List.replicate m 0
  | k + 1 => if xs.getD k false = true then (txt m xs k).set (k / 8) (bits BinOp.or IntKind.u8 ((txt m xs k).getD (k / 8) 0) (mask (k % 8))) else txt m xs k

theorem txt_length (m : Nat) (xs : List Bool) : ∀ k, (txt m xs k).length = m
  | 0 => by simp [txt]
  | k + 1 => by
    simp only [txt]
    split
    · rw [List.length_set]; exact txt_length m xs k
    · exact txt_length m xs k

def textF (xs : List Bool) : ByteArray × Bool := if xs.length ≤ 40 ∧ xs.length % 8 = 0 then (strOfNums (txt (xs.length / 8) xs xs.length), true) else (ByteArray.empty, false)

theorem mask_impl (k : Nat) : (2 : Int) ^ (7 - k % 8) % 256 = mask (k % 8) := by
  have h : k % 8 < 8 := Nat.mod_lt _ (by omega)
  generalize k % 8 = j at h
  match j, h with
  | 0, _ => rfl
  | 1, _ => rfl
  | 2, _ => rfl
  | 3, _ => rfl
  | 4, _ => rfl
  | 5, _ => rfl
  | 6, _ => rfl
  | 7, _ => rfl

theorem mask_spec (k : Nat) : (128 : Int) / 2 ^ (k % 8) = mask (k % 8) := by
  simp [mask]

set_option maxHeartbeats 1000000 in
theorem implText_at (b o n c m : Nat) (xs : List Bool) (w : World) (hx : xs.length = n) (h40 : n ≤ 40) (hm : n = 8 * m)
    (hcx : ∀ j, j < n → w.cell? ⟨b, o + j, none⟩ = some (.bool (xs.getD j false))) :
    Calls Try.prog 34 #[.slice (some ⟨b, o, none⟩) n c] w fun e w' => e = .returned (.tuple #[.string (strOfNums (txt m xs n)), .bool true]) ∧ Below w.heap.size w w' := by
  obtain ⟨i0, hi, hz0, hz1, hz2⟩ := info_parts Try.infoByte
  have HX : Hid (xs.length = n) := hx
  have HM : Hid (n = 8 * m) := hm
  have HC : Hid (∀ j, j < n → w.cell? ⟨b, o + j, none⟩ = some (.bool (xs.getD j false))) := hcx
  have e1 : (n : Int) % 8 = 0 := by omega
  have e2 : (n : Int) / 8 = m := by omega
  have h40i : (n : Int) ≤ 40 := by omega
  have hm5 : m ≤ 5 := by omega
  have hd : decide ((n : Int) ≤ 40) = true := decide_eq_true (by omega)
  clear hx hm hcx
  go_enter Try.func34, Try.ntmps34
  go_wp2_with (at_make; refine wpList_make_full _ rfl _ _ 22 rfl w.heap.size 5 i0 (.int .u8 0) 1 Try.underlying22 hi hz0 hz1 _ _ _ _ m rfl rfl rfl rfl (by rw [hz2]; omega) (by unfold maxLen; omega) (Nat.le_refl _) ?_; intro w0 hown0 hgrow0)
  have HB0 : Hid (Below w.heap.size w w0) := (Below.refl _ _).grown hgrow0 (Nat.le_refl _) (fun k h => by cases h)
  have HO0 : Hid (w0.ownsRow w.heap.size 5 1 (.slice (some ⟨w.heap.size, 0, none⟩) m m) m (cellsU (txt m xs 0))) := by
    have e : (madeCells (Value.int .u8 0).cells (m * 1)).toList = cellsU (txt m xs 0) := by
      rw [Nat.mul_one]
      exact (toList_madeCells_one _ _).trans (by simp [cellsU, txt])
    show w0.ownsRow _ _ _ _ _ _
    rw [← e]; exact hown0
  clear hown0 hgrow0 e1 e2
  go_wp2
  go_loopw [22] (fun i wr => ∃ k : Nat, k ≤ n ∧ i = .int .i64 k ∧ Hid (wr.ownsRow w.heap.size 5 1 (.slice (some ⟨w.heap.size, 0, none⟩) m m) m (cellsU (txt m xs k))) ∧ Hid (Below w.heap.size w wr)) (fun i _ => n - (intOf i).toNat)
  case atStart => exact ⟨0, Nat.zero_le _, rfl, HO0, HB0⟩
  case round =>
    clear HO0 HB0
    obtain ⟨k, hk, rfl, hO, hB⟩ := hrel
    by_cases hlt : k < n
    · have hbx := World.block_lt_of_cell? w _ (HC.out k hlt)
      have g1 : wr.cell? ⟨b, o + k, none⟩ = some (.bool (xs.getD k false)) := by rw [hB.out.cell (p := ⟨b, o + k, none⟩) hbx]; exact HC.out k hlt
      have hk0 : (0 : Int) ≤ (k : Int) := by omega
      have hkl : (k : Int) < (n : Int) := by omega
      have hq : k / 8 < m := by have := HM.out; omega
      have g2 : wr.cell? ⟨w.heap.size, k / 8, none⟩ = some (.int .u8 ((txt m xs k).getD (k / 8) 0)) := by
        rw [World.ownsRow.cellAt hO.out (k / 8) (by omega)]; exact getD_map_u8 _ _ (by rw [txt_length]; exact hq)
      have g3 : wr.frozen? ⟨w.heap.size, k / 8, none⟩ = false := World.ownsRow.frozenAt hO.out _
      have hst := World.ownsRow.stored hO.out (k / 8) (.int .u8 (bits BinOp.or IntKind.u8 ((txt m xs k).getD (k / 8) 0) (mask (k % 8))))
      rw [cellsU_set] at hst
      cases hbit : xs.getD k false
      · have HS : Hid (txt m xs (k + 1) = txt m xs k) := by show txt m xs (k + 1) = _; simp only [txt, hbit]; simp
        rw [hbit] at g1
        clear hst g2 g3 hbit
        go_wp2
        go_roundw
        case rel => exact ⟨k + 1, by omega, by go_num, by show World.ownsRow _ _ _ _ _ _ _; rw [HS.out]; exact hO.out, hB⟩
        case measure => simp [intOf]; omega
      · have HS : Hid (txt m xs (k + 1) = (txt m xs k).set (k / 8) (bits BinOp.or IntKind.u8 ((txt m xs k).getD (k / 8) 0) (mask (k % 8)))) := by show txt m xs (k + 1) = _; simp only [txt, hbit]; simp
        rw [hbit] at g1
        have HST : Hid (World.ownsRow (wr.setCell ⟨w.heap.size, k / 8, none⟩ (.int .u8 (bits BinOp.or IntKind.u8 ((txt m xs k).getD (k / 8) 0) (mask (k % 8))))) w.heap.size 5 1 (.slice (some ⟨w.heap.size, 0, none⟩) m m) m (cellsU ((txt m xs k).set (k / 8) (bits BinOp.or IntKind.u8 ((txt m xs k).getD (k / 8) 0) (mask (k % 8)))))) := hst.1
        have q0 : (0 : Int) ≤ (k : Int) / 8 := by omega
        have q1 : (k : Int) / 8 < m := by omega
        have q2 : ((k : Int) / 8).toNat = k / 8 := by omega
        clear hst hbit
        generalize (txt m xs k).getD (k / 8) 0 = y at *
        go_wp2_with fail
        go_region
        go_wp2
        go_roundw
        case rel => exact ⟨k + 1, by omega, by go_num, by show World.ownsRow _ _ _ _ _ _ _; rw [HS.out, ← mask_impl k]; have h := HST.out; rw [← mask_impl k] at h; exact h.drew, (hB.out.setCell (Nat.le_refl _) _).drew⟩
        case measure => simp [intOf]; omega
    · obtain rfl : k = n := by omega
      have hcv := run_convert_bytes_arg (P := Try.prog) wr 22 5 Try.underlying22 Try.underlying5 w.heap.size 0 m m (txt m xs k) (txt_length m xs k) (fun i hi => by
        rw [Nat.zero_add, World.ownsRow.cellAt hO.out i (by omega)]
        exact getD_map_u8 _ _ (by rw [txt_length]; exact hi)) 9 Try.underlying9
      generalize hst : strOfNums (txt m xs k) = st at hcv
      have HST : Hid (strOfNums (txt m xs k) = st) := hst
      clear hst
      go_wp2
      refine bodyPost_ret (v := .tuple #[.string st, .bool true]) (by simp [results, Try.results34, go_sem]) rfl ⟨by rw [HST.out], hB.out⟩

theorem implText_nil (ao : Option Addr) (c : Nat) (w : World) :
    Calls Try.prog 34 #[.slice ao 0 c] w fun e w' => e = .returned (.tuple #[.string ByteArray.empty, .bool true]) ∧ Below w.heap.size w w' := by
  obtain ⟨i0, hi, hz0, hz1, hz2⟩ := info_parts Try.infoByte
  have hd : decide (((0 : Nat) : Int) ≤ 40) = true := decide_eq_true (by omega)
  go_enter Try.func34, Try.ntmps34
  go_wp2_with (at_make; refine wpList_make_full _ rfl _ _ 22 rfl w.heap.size 5 i0 (.int .u8 0) 1 Try.underlying22 hi hz0 hz1 _ _ _ _ 0 rfl rfl rfl rfl (by rw [hz2]; omega) (by unfold maxLen; omega) (Nat.le_refl _) ?_; intro w0 hown0 hgrow0)
  have HB0 : Hid (Below w.heap.size w w0) := (Below.refl _ _).grown hgrow0 (Nat.le_refl _) (fun k h => by cases h)
  have hcv := run_convert_bytes_arg (P := Try.prog) w0 22 5 Try.underlying22 Try.underlying5 w.heap.size 0 0 0 [] rfl (fun i hi => absurd hi (by omega)) 9 Try.underlying9
  clear hown0 hgrow0
  refine wp_loop_rounds 1 ?_
  rw [rounds_succ]
  go_wp2
  refine bodyPost_ret (v := .tuple #[.string ByteArray.empty, .bool true]) (by simp [results, Try.results34, go_sem, strOfNums]; try rfl) rfl ⟨rfl, HB0.out⟩

theorem implText_no (ao : Option Addr) (n c : Nat) (w : World) (h : ¬ (n ≤ 40 ∧ n % 8 = 0)) (hn : n ≤ 17592186044416) :
    Calls Try.prog 34 #[.slice ao n c] w fun e w' => e = .returned (.tuple #[.string ByteArray.empty, .bool false]) ∧ w' = w := by
  by_cases h1 : (n : Int) ≤ 40
  · have h2 : ((n : Int) % 8 != 0) = true := by rw [bne_iff_ne]; omega
    have hd : decide ((n : Int) ≤ 40) = true := decide_eq_true h1
    go_enter Try.func34, Try.ntmps34
    go_wp2
    refine bodyPost_ret (v := .tuple #[.string ByteArray.empty, .bool false]) (by simp [results, Try.results34, go_sem]; try rfl) rfl ⟨rfl, rfl⟩
  · have hd : decide ((n : Int) ≤ 40) = false := decide_eq_false h1
    have h4 : (40 : Int) < n := by omega
    go_enter Try.func34, Try.ntmps34
    go_wp2
    refine bodyPost_ret (v := .tuple #[.string ByteArray.empty, .bool false]) (by simp [results, Try.results34, go_sem]; try rfl) rfl ⟨rfl, rfl⟩

theorem implText_c (ao : Option Addr) (n c : Nat) (xs : List Bool) (w : World) (hx : xs.length = n) (hn : n ≤ 17592186044416) (hr : RdB w ao xs) (st : ByteArray) (fb : Bool) (hF : textF xs = (st, fb)) :
    Calls Try.prog 34 #[.slice ao n c] w fun e w' => e = .returned (.tuple #[.string st, .bool fb]) ∧ Below w.heap.size w w' := by
  unfold textF at hF
  rw [hx] at hF
  by_cases h : n ≤ 40 ∧ n % 8 = 0
  · rw [if_pos h] at hF
    simp only [Prod.mk.injEq] at hF
    obtain ⟨rfl, rfl⟩ := hF
    by_cases h0 : n = 0
    · subst h0
      exact implText_nil ao c w
    · obtain ⟨b, o, rfl, hcx⟩ := hr.at hx (by omega)
      exact implText_at b o n c (n / 8) xs w hx h.1 (by omega) hcx
  · rw [if_neg h] at hF
    simp only [Prod.mk.injEq] at hF
    obtain ⟨rfl, rfl⟩ := hF
    refine (implText_no ao n c w h hn).mono ?_
    rintro e w' ⟨rfl, hw⟩
    subst w'
    exact ⟨rfl, Below.refl _ _⟩

set_option maxHeartbeats 1000000 in
theorem specText_at (b o n c m : Nat) (xs : List Bool) (w : World) (hx : xs.length = n) (h40 : n ≤ 40) (hm : n = 8 * m)
    (hcx : ∀ j, j < n → w.cell? ⟨b, o + j, none⟩ = some (.bool (xs.getD j false))) :
    Calls Try.prog 35 #[.slice (some ⟨b, o, none⟩) n c] w fun e w' => e = .returned (.tuple #[.string (strOfNums (txt m xs n)), .bool true]) ∧ Below w.heap.size w w' := by
  obtain ⟨i0, hi, hz0, hz1, hz2⟩ := info_parts Try.infoByte
  have HX : Hid (xs.length = n) := hx
  have HM : Hid (n = 8 * m) := hm
  have HC : Hid (∀ j, j < n → w.cell? ⟨b, o + j, none⟩ = some (.bool (xs.getD j false))) := hcx
  have e1 : (n : Int) % 8 = 0 := by omega
  have e2 : (n : Int) / 8 = m := by omega
  have h40i : (n : Int) ≤ 40 := by omega
  have hm5 : m ≤ 5 := by omega
  have hd : decide ((n : Int) ≤ 40) = true := decide_eq_true (by omega)
  clear hx hm hcx
  go_enter Try.func35, Try.ntmps35
  go_wp2_with (first | (go_at_call 54; refine (l3Long_c _ _ _ _ (by omega)).mono ?_; rw [hd]; clear hd; rintro e w' ⟨rfl, hw⟩; subst w') | (at_make; refine wpList_make_full _ rfl _ _ 22 rfl w.heap.size 5 i0 (.int .u8 0) 1 Try.underlying22 hi hz0 hz1 _ _ _ _ m rfl rfl rfl rfl (by rw [hz2]; omega) (by unfold maxLen; omega) (Nat.le_refl _) ?_; intro w0 hown0 hgrow0))
  have HB0 : Hid (Below w.heap.size w w0) := (Below.refl _ _).grown hgrow0 (Nat.le_refl _) (fun k h => by cases h)
  have HO0 : Hid (w0.ownsRow w.heap.size 5 1 (.slice (some ⟨w.heap.size, 0, none⟩) m m) m (cellsU (txt m xs 0))) := by
    have e : (madeCells (Value.int .u8 0).cells (m * 1)).toList = cellsU (txt m xs 0) := by
      rw [Nat.mul_one]
      exact (toList_madeCells_one _ _).trans (by simp [cellsU, txt])
    show w0.ownsRow _ _ _ _ _ _
    rw [← e]; exact hown0
  clear hown0 hgrow0 e1 e2
  go_wp2
  go_loopw [22] (fun i wr => ∃ k : Nat, k ≤ n ∧ i = .int .i64 k ∧ Hid (wr.ownsRow w.heap.size 5 1 (.slice (some ⟨w.heap.size, 0, none⟩) m m) m (cellsU (txt m xs k))) ∧ Hid (Below w.heap.size w wr)) (fun i _ => n - (intOf i).toNat)
  case atStart => exact ⟨0, Nat.zero_le _, rfl, HO0, HB0⟩
  case round =>
    clear HO0 HB0
    obtain ⟨k, hk, rfl, hO, hB⟩ := hrel
    by_cases hlt : k < n
    · have hbx := World.block_lt_of_cell? w _ (HC.out k hlt)
      have g1 : wr.cell? ⟨b, o + k, none⟩ = some (.bool (xs.getD k false)) := by rw [hB.out.cell (p := ⟨b, o + k, none⟩) hbx]; exact HC.out k hlt
      have hk0 : (0 : Int) ≤ (k : Int) := by omega
      have hkl : (k : Int) < (n : Int) := by omega
      have hq : k / 8 < m := by have := HM.out; omega
      have g2 : wr.cell? ⟨w.heap.size, k / 8, none⟩ = some (.int .u8 ((txt m xs k).getD (k / 8) 0)) := by
        rw [World.ownsRow.cellAt hO.out (k / 8) (by omega)]; exact getD_map_u8 _ _ (by rw [txt_length]; exact hq)
      have g3 : wr.frozen? ⟨w.heap.size, k / 8, none⟩ = false := World.ownsRow.frozenAt hO.out _
      have hst := World.ownsRow.stored hO.out (k / 8) (.int .u8 (bits BinOp.or IntKind.u8 ((txt m xs k).getD (k / 8) 0) (mask (k % 8))))
      rw [cellsU_set] at hst
      cases hbit : xs.getD k false
      · have HS : Hid (txt m xs (k + 1) = txt m xs k) := by show txt m xs (k + 1) = _; simp only [txt, hbit]; simp
        rw [hbit] at g1
        clear hst g2 g3 hbit
        go_wp2
        go_roundw
        case rel => exact ⟨k + 1, by omega, by go_num, by show World.ownsRow _ _ _ _ _ _ _; rw [HS.out]; exact hO.out, hB⟩
        case measure => simp [intOf]; omega
      · have HS : Hid (txt m xs (k + 1) = (txt m xs k).set (k / 8) (bits BinOp.or IntKind.u8 ((txt m xs k).getD (k / 8) 0) (mask (k % 8)))) := by show txt m xs (k + 1) = _; simp only [txt, hbit]; simp
        rw [hbit] at g1
        have HST : Hid (World.ownsRow (wr.setCell ⟨w.heap.size, k / 8, none⟩ (.int .u8 (bits BinOp.or IntKind.u8 ((txt m xs k).getD (k / 8) 0) (mask (k % 8))))) w.heap.size 5 1 (.slice (some ⟨w.heap.size, 0, none⟩) m m) m (cellsU ((txt m xs k).set (k / 8) (bits BinOp.or IntKind.u8 ((txt m xs k).getD (k / 8) 0) (mask (k % 8)))))) := hst.1
        have q0 : (0 : Int) ≤ (k : Int) / 8 := by omega
        have q1 : (k : Int) / 8 < m := by omega
        have q2 : ((k : Int) / 8).toNat = k / 8 := by omega
        clear hst hbit
        generalize (txt m xs k).getD (k / 8) 0 = y at *
        skip
        go_wp2
        go_roundw
        case rel => exact ⟨k + 1, by omega, by go_num, by show World.ownsRow _ _ _ _ _ _ _; rw [HS.out, ← mask_spec k]; have h := HST.out; rw [← mask_spec k] at h; exact h, (hB.out.setCell (Nat.le_refl _) _)⟩
        case measure => simp [intOf]; omega
    · obtain rfl : k = n := by omega
      have hcv := run_convert_bytes_arg (P := Try.prog) wr 22 5 Try.underlying22 Try.underlying5 w.heap.size 0 m m (txt m xs k) (txt_length m xs k) (fun i hi => by
        rw [Nat.zero_add, World.ownsRow.cellAt hO.out i (by omega)]
        exact getD_map_u8 _ _ (by rw [txt_length]; exact hi)) 9 Try.underlying9
      generalize hst : strOfNums (txt m xs k) = st at hcv
      have HST : Hid (strOfNums (txt m xs k) = st) := hst
      clear hst
      go_wp2
      refine bodyPost_ret (v := .tuple #[.string st, .bool true]) (by simp [results, Try.results35, go_sem]) rfl ⟨by rw [HST.out], hB.out⟩

theorem specText_nil (ao : Option Addr) (c : Nat) (w : World) :
    Calls Try.prog 35 #[.slice ao 0 c] w fun e w' => e = .returned (.tuple #[.string ByteArray.empty, .bool true]) ∧ Below w.heap.size w w' := by
  obtain ⟨i0, hi, hz0, hz1, hz2⟩ := info_parts Try.infoByte
  have hd : decide (((0 : Nat) : Int) ≤ 40) = true := decide_eq_true (by omega)
  go_enter Try.func35, Try.ntmps35
  go_wp2_with (first | (go_at_call 54; refine (l3Long_c _ _ _ _ (by omega)).mono ?_; rw [hd]; clear hd; rintro e w' ⟨rfl, hw⟩; subst w') | (at_make; refine wpList_make_full _ rfl _ _ 22 rfl w.heap.size 5 i0 (.int .u8 0) 1 Try.underlying22 hi hz0 hz1 _ _ _ _ 0 rfl rfl rfl rfl (by rw [hz2]; omega) (by unfold maxLen; omega) (Nat.le_refl _) ?_; intro w0 hown0 hgrow0))
  have HB0 : Hid (Below w.heap.size w w0) := (Below.refl _ _).grown hgrow0 (Nat.le_refl _) (fun k h => by cases h)
  have hcv := run_convert_bytes_arg (P := Try.prog) w0 22 5 Try.underlying22 Try.underlying5 w.heap.size 0 0 0 [] rfl (fun i hi => absurd hi (by omega)) 9 Try.underlying9
  clear hown0 hgrow0
  refine wp_loop_rounds 1 ?_
  rw [rounds_succ]
  go_wp2
  refine bodyPost_ret (v := .tuple #[.string ByteArray.empty, .bool true]) (by simp [results, Try.results35, go_sem, strOfNums]; try rfl) rfl ⟨rfl, HB0.out⟩

theorem specText_no (ao : Option Addr) (n c : Nat) (w : World) (h : ¬ (n ≤ 40 ∧ n % 8 = 0)) (hn : n ≤ 17592186044416) :
    Calls Try.prog 35 #[.slice ao n c] w fun e w' => e = .returned (.tuple #[.string ByteArray.empty, .bool false]) ∧ w' = w := by
  by_cases h1 : (n : Int) ≤ 40
  · have h2 : ((n : Int) % 8 != 0) = true := by rw [bne_iff_ne]; omega
    have hd : decide ((n : Int) ≤ 40) = true := decide_eq_true h1
    go_enter Try.func35, Try.ntmps35
    go_wp2_with (go_at_call 54; refine (l3Long_c _ _ _ _ (by omega)).mono ?_; rw [hd]; clear hd; rintro e w' ⟨rfl, hw⟩; subst w')
    refine bodyPost_ret (v := .tuple #[.string ByteArray.empty, .bool false]) (by simp [results, Try.results35, go_sem]; try rfl) rfl ⟨rfl, rfl⟩
  · have hd : decide ((n : Int) ≤ 40) = false := decide_eq_false h1
    have h4 : (40 : Int) < n := by omega
    go_enter Try.func35, Try.ntmps35
    go_wp2_with (go_at_call 54; refine (l3Long_c _ _ _ _ (by omega)).mono ?_; rw [hd]; clear hd; rintro e w' ⟨rfl, hw⟩; subst w')
    refine bodyPost_ret (v := .tuple #[.string ByteArray.empty, .bool false]) (by simp [results, Try.results35, go_sem]; try rfl) rfl ⟨rfl, rfl⟩

theorem specText_c (ao : Option Addr) (n c : Nat) (xs : List Bool) (w : World) (hx : xs.length = n) (hn : n ≤ 17592186044416) (hr : RdB w ao xs) (st : ByteArray) (fb : Bool) (hF : textF xs = (st, fb)) :
    Calls Try.prog 35 #[.slice ao n c] w fun e w' => e = .returned (.tuple #[.string st, .bool fb]) ∧ Below w.heap.size w w' := by
  unfold textF at hF
  rw [hx] at hF
  by_cases h : n ≤ 40 ∧ n % 8 = 0
  · rw [if_pos h] at hF
    simp only [Prod.mk.injEq] at hF
    obtain ⟨rfl, rfl⟩ := hF
    by_cases h0 : n = 0
    · subst h0
      exact specText_nil ao c w
    · obtain ⟨b, o, rfl, hcx⟩ := hr.at hx (by omega)
      exact specText_at b o n c (n / 8) xs w hx h.1 (by omega) hcx
  · rw [if_neg h] at hF
    simp only [Prod.mk.injEq] at hF
    obtain ⟨rfl, rfl⟩ := hF
    refine (specText_no ao n c w h hn).mono ?_
    rintro e w' ⟨rfl, hw⟩
    subst w'
    exact ⟨rfl, Below.refl _ _⟩

end Go.Proofs.Ytjdfpjeeipbghaa
