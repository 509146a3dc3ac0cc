/- Chapter 16: a number below 65536 as a text of its bits, by the library. -/
import Derived.Test.YtjpegbodhpnflaaDoorA16
import Derived.Laws.BytesArg
namespace Go.Proofs.YtjpegbodhpnflaaDoor
set_option linter.unusedVariables false
set_option maxRecDepth 1000000
set_option linter.unusedSimpArgs false
open Go.RowKit

/-- Of the table of places the cell that is read: the second. -/
def Tb (w : World) : Prop := w.cell? ⟨2, 1, none⟩ = some (.int .u8 1)
theorem Tb.lt {w : World} (h : Tb w) : 2 < w.heap.size := World.block_lt_of_cell? w _ h
theorem Tb.later {w w' : World} (h : Tb w) (hb : Below w.heap.size w w') : Tb w' := by
  unfold Tb; rw [hb.cell (p := ⟨2, 1, none⟩) h.lt]; exact h

theorem tz64_c (w : World) (ht : Tb w) : Calls Tryd.prog 110 #[.int .u64 2] w fun e w' => e = .returned (.int .i64 1) ∧ w' = w := by
  unfold Tb at ht
  have hE : IntKind.u64.wrap (bits BinOp.and IntKind.u64 2 (IntKind.u64.wrap (-2)) * 285870213051353865) / 288230376151711744 = 1 := by decide +kernel
  go_enter Tryd.func110, Tryd.ntmps110
  go_wp2
  go_ret
  exact ⟨rfl, rfl⟩

theorem tz_c (w : World) (ht : Tb w) : Calls Tryd.prog 103 #[.int .u64 2] w fun e w' => e = .returned (.int .i64 1) ∧ w' = w := by
  go_enter Tryd.func103, Tryd.ntmps103
  go_wp2_with fail
  refine (tz64_c _ ht).mono ?_
  rintro e w1 ⟨rfl, hw⟩
  subst w1
  go_wp2
  go_ret
  exact ⟨rfl, rfl⟩

theorem isPow2_c (w : World) : Calls Tryd.prog 102 #[.int .i64 2] w fun e w' => e = .returned (.bool true) ∧ w' = w := by
  go_enter Tryd.func102, Tryd.ntmps102
  go_wp2
  go_ret
  exact ⟨rfl, rfl⟩

theorem RowB.set {w : World} {g : Nat} {l : Bs} (h : RowB w g l) {k : Nat} (hk : k < l.length) (b : UInt8) : RowB (w.setCell ⟨g, k, none⟩ (.int .u8 (b.toNat : Int))) g (l.set k b) := by
  refine ⟨fun j hj => ?_, fun j hj => ?_⟩
  · by_cases e : j = k
    · subst e
      rw [World.cell?_setCell_same _ _ _ (h.1 j hk)]
      simp [bN, List.getD, hk]
    · rw [World.cell?_setCell_other _ _ _ _ (by simp [Ne.symm e]), h.1 j (by simpa using hj)]
      simp [bN, List.getD, List.getElem?_set, show k ≠ j by omega]
  · rw [World.frozen?_setCell]; exact h.2 j (by simpa using hj)
theorem getD_byteInt (l : Bs) (i : Nat) (h : i < l.length) : (l.map fun b => (b.toNat : Int)).getD i 0 = (bN l i : Nat) := by
  simp [bN, List.getD, h]
theorem strOfNums_bytes (l : Bs) : strOfNums (l.map fun b => (b.toNat : Int)) = tx l := by
  unfold strOfNums tx
  congr 2
  rw [List.map_map]
  conv => rhs; rw [← List.map_id l]
  refine List.map_congr_left fun b _ => ?_
  show UInt8.ofNat ((b.toNat : Int).toNat) = b
  simp
/-- A row's bytes, or some of them, become a text. -/
theorem RowB.part {w : World} {g : Nat} {l : Bs} (h : RowB w g l) (o n c : Nat) (m : Bs) (hm : (l.drop o).take n = m) (hn : o + n ≤ l.length) : (convert 22 9 (.slice (some ⟨g, o, none⟩) n c)).run Tryd.prog w = .ok (.string (tx m)) w := by
  have hl : m.length = n := by rw [← hm, List.length_take, List.length_drop]; omega
  have := run_convert_bytes_arg (P := Tryd.prog) w 22 5 Tryd.underlying22 Tryd.underlying5 g o n c (m.map fun b => (b.toNat : Int)) (by rw [List.length_map, hl]) (fun i hi => by
    rw [getD_byteInt m i (by omega), h.1 (o + i) (by omega)]
    unfold bN
    rw [← hm]
    congr 4
    rw [List.getD, List.getD, List.getElem?_take, if_pos hi, List.getElem?_drop]) 9 Tryd.underlying9
  rw [this, strOfNums_bytes]

/-- A bit's sign. -/
def dg (v : Nat) : UInt8 := if v % 2 = 1 then 49 else 48
/-- The signs of a number's bits, the greatest first. -/
def binF : Nat → Nat → Bs
  | 0, v => [dg v]
  | f + 1, v => if v < 2 then [dg v] else binF f (v / 2) ++ [dg (v % 2)]
def binT (v : Nat) : Bs := binF 15 v

theorem dg_nat (v : Nat) : ((dg v).toNat : Int) = 48 + (v % 2 : Nat) := by
  unfold dg
  split <;> rename_i h
  · rw [h]; rfl
  · rw [show v % 2 = 0 by omega]; rfl

theorem zero65 : Tryd.zeroCells122 = Array.replicate 65 (.int .u8 0) := by kernel_rfl
theorem row65 (w : World) : RowB (w.alloc (.cells Tryd.zeroCells122 122)) w.heap.size (zeros 65) := by
  refine ⟨fun j hj => ?_, fun j hj => ?_⟩
  · have hj' : j < 65 := by simpa [zeros] using hj
    rw [World.cell?_alloc_mark, zero65, show bN (zeros 65) j = 0 by unfold bN zeros; rw [List.getD, List.getElem?_replicate, if_pos hj']; rfl, Array.getElem?_replicate, if_pos hj']
    rfl
  · rw [World.frozen?_alloc_mark, decide_eq_false (show ¬ j < 0 by omega), Bool.and_false]

theorem and_one (v : Nat) (h : v < 65536) : bits BinOp.and IntKind.u64 (v : Int) 1 = ((v % 2 : Nat) : Int) := by
  have h1 : (BitVec.ofInt 64 (v : Int)).toNat = v := by
    rw [BitVec.ofInt_natCast, BitVec.toNat_ofNat]; exact Nat.mod_eq_of_lt (by omega)
  show IntKind.u64.wrap ((BitVec.ofInt 64 (v : Int) &&& BitVec.ofInt 64 1).toNat : Int) = _
  rw [BitVec.toNat_and, h1, show (BitVec.ofInt 64 1).toNat = 1 from rfl, Nat.and_one_is_mod, IntKind.wrap_u64]
  omega

theorem slice65 (g m : Nat) (hm : m < 65) (w : World) : (Instr.sliceAt 122 (.pointer (some ⟨g, 0, none⟩)) (some (.int .i64 (m : Int))) none none).run Tryd.prog w = .ok (.slice (some ⟨g, m, none⟩) (65 - m) (65 - m)) w := by
  have hal : Tryd.prog.arrayLen 122 = 65 := by kernel_rfl
  have hel : Tryd.prog.elem 122 = 5 := by kernel_rfl
  have hut : Tryd.prog.underlying 122 = some (.array (Tryd.prog.arrayLen 122) (Tryd.prog.elem 122)) := by kernel_rfl
  have hsz : (sizeOf 5).run Tryd.prog w = .ok 1 w := by
    obtain ⟨i0, hi, hz0, hz1, hz2⟩ := info_parts Tryd.infoByte
    simp [sizeOf, typeInfo, hi, hz1]
  rw [run_sliceAt_array_l (P := Tryd.prog) w 122 ⟨g, 0, none⟩ hut .i64 (m : Int) (by omega) (by rw [hal]; omega), hel, hsz, hal]
  simp only [Result.andThen, slicedAt, Int.toNat_natCast]
  rw [if_neg (by omega), Go.WideShapes.add_plain, Nat.zero_add, Nat.mul_one]

set_option maxHeartbeats 1000000 in
theorem fb_c (u : Nat) (hu : u < 65536) (w : World) (ht : Tb w) : Calls Tryd.prog 86 #[.slice none 0 0, .int .u64 u, .int .i64 2, .bool false, .bool false] w fun e w' => e = .returned (.tuple #[.slice none 0 0, .string (tx (binT u))]) ∧ Below w.heap.size w w' := by
  have q1 : Hid (∀ wx, Calls Tryd.prog 102 #[.int .i64 2] wx fun e w' => e = .returned (.bool true) ∧ w' = wx) := fun wx => isPow2_c wx
  have q2 : Hid (∀ wx, Below w.heap.size w wx → Calls Tryd.prog 103 #[.int .u64 2] wx fun e w' => e = .returned (.int .i64 1) ∧ w' = wx) := fun wx h => tz_c wx (ht.later h)
  have HR0 : Hid (RowB (w.alloc (.cells Tryd.zeroCells122 122)) w.heap.size (zeros 65)) := row65 w
  have HB0 : Hid (Below w.heap.size w (w.alloc (.cells Tryd.zeroCells122 122))) := balloc w _
  have HU : Hid (binF 15 u = binT u) := rfl
  have HS : Hid (u < 2 ^ 16) := hu
  generalize binT u = B at HU ⊢
  go_enter Tryd.func86, Tryd.ntmps86
  go_wp2_with (go_at_call 102; refine (q1.out _).mono ?_; clear q1; rintro e w1 ⟨rfl, hw⟩; subst w1)
  refine (q2.out _ HB0.out).mono ?_
  clear q2
  rintro e w1 ⟨rfl, hw⟩
  subst w1
  generalize w.alloc (.cells Tryd.zeroCells122 122) = W at HR0 HB0
  go_wp2
  go_loopw [1, 13] (fun uv iv wr => ∃ (m k v : Nat) (l : Bs), m + k = 65 ∧ k ≤ 15 ∧ uv = .int .u64 v ∧ iv = .int .i64 (m : Int) ∧ v < 65536 ∧ l.length = k ∧ Hid (v < 2 ^ (16 - k)) ∧ Hid (RowB wr w.heap.size (zeros m ++ l)) ∧ Hid (binF (15 - k) v ++ l = B) ∧ Hid (Below w.heap.size w wr)) (fun _ iv _ => (intOf iv).toNat)
  case atStart => exact ⟨65, 0, u, [], rfl, by omega, rfl, rfl, hu, rfl, HS, by rw [List.append_nil]; exact HR0, by rw [List.append_nil]; exact HU, HB0⟩
  case round =>
    obtain ⟨m', k, v, l, hmk, hk, rfl, rfl, hv, hl, HV, HR, HQ, HB⟩ := hrel
    obtain ⟨m, rfl⟩ : ∃ m, m' = m + 1 := ⟨m' - 1, by omega⟩
    have hs : (zeros (m + 1) ++ l).set m (dg v) = zeros m ++ dg v :: l := by
      rw [zeros, List.replicate_succ', List.append_assoc, List.set_append_right _ _ (by simp), List.length_replicate, Nat.sub_self]
      rfl
    have HR2 : Hid (RowB (wr.setCell ⟨w.heap.size, m, none⟩ (.int .u8 ((dg v).toNat : Int))) w.heap.size (zeros m ++ dg v :: l)) := by
      show RowB _ _ _
      rw [← hs]
      exact HR.out.set (by simp [zeros]; omega) _
    have HB2 : Hid (Below w.heap.size w (wr.setCell ⟨w.heap.size, m, none⟩ (.int .u8 ((dg v).toNat : Int)))) := HB.out.setCell (p := ⟨w.heap.size, m, none⟩) (Nat.le_refl _) _
    have e1 : IntKind.i64.wrap (((m + 1 : Nat) : Int) - 1) = (m : Int) := by rw [IntKind.wrap_i64]; omega
    have hf := HR.out.2 m (by simp [zeros]; omega)
    have hc := HR.out.1 m (by simp [zeros]; omega)
    have hm64 : (m : Int) < 65 := by omega
    rw [dg_nat] at HR2 HB2
    have hA := and_one v hv
    by_cases h2 : v < 2
    · have h2' : ¬ (2 : Int) ≤ (v : Int) := by omega
      have HE : Hid (dg v :: l = B) := by
        show _ = _
        rw [← HQ.out]
        generalize 15 - k = f
        cases f with
        | zero => rfl
        | succ f => rw [binF, if_pos h2]; rfl
      have HT := HR2.out.part m (65 - m) (65 - m) (dg v :: l) (by
        rw [List.drop_append_of_le_length (by simp [zeros]), List.drop_of_length_le (by simp [zeros]), List.nil_append, List.take_of_length_le (by simp; omega)]) (by simp [zeros]; omega)
      rw [HE.out] at HT
      have e3 : v % 2 = v := by omega
      rw [e3] at HT HB2
      obtain ⟨S, hS⟩ : ∃ S, tx B = S := ⟨_, rfl⟩
      rw [hS] at HT
      have HXS : Hid (tx B = S) := hS
      clear hS
      have hSL := fun wx => slice65 w.heap.size m (by omega) wx
      clear hs hA HE HQ HR HV HR2 HR0 HU HS HB HB0 e3 hv h2 hl hk
      have h01 : v = 0 ∨ v = 1 := by omega
      rcases h01 with rfl | rfl
      · rw [show (48 : Int) + ((0 : Nat) : Int) = 48 from rfl] at HT HB2
        have HT0 : (convert 22 9 (.slice (some ⟨w.heap.size, m, none⟩) (65 - m) (65 - m))).run Tryd.prog (wr.setCell ⟨w.heap.size, m, none⟩ (.int .u8 (((({ data := #[48, 49, 50, 51, 52, 53, 54, 55, 56, 57, 97, 98, 99, 100, 101, 102, 103, 104, 105, 106, 107, 108, 109, 110, 111, 112, 113, 114, 115, 116, 117, 118, 119, 120, 121, 122] } : ByteArray)[0]'(by decide)).toNat : Nat) : Int))) = .ok (.string S) (wr.setCell ⟨w.heap.size, m, none⟩ (.int .u8 (((({ data := #[48, 49, 50, 51, 52, 53, 54, 55, 56, 57, 97, 98, 99, 100, 101, 102, 103, 104, 105, 106, 107, 108, 109, 110, 111, 112, 113, 114, 115, 116, 117, 118, 119, 120, 121, 122] } : ByteArray)[0]'(by decide)).toNat : Nat) : Int))) := HT
        clear HT
        go_wp2
        refine bodyPost_ret (v := .tuple #[.slice none 0 0, .string S]) (by simp [results, Tryd.results86, go_sem]; try rfl) rfl ?_
        exact ⟨by rw [HXS.out], HB2.out⟩
      · rw [show (48 : Int) + ((1 : Nat) : Int) = 49 from rfl] at HT HB2
        have HT0 : (convert 22 9 (.slice (some ⟨w.heap.size, m, none⟩) (65 - m) (65 - m))).run Tryd.prog (wr.setCell ⟨w.heap.size, m, none⟩ (.int .u8 (((({ data := #[48, 49, 50, 51, 52, 53, 54, 55, 56, 57, 97, 98, 99, 100, 101, 102, 103, 104, 105, 106, 107, 108, 109, 110, 111, 112, 113, 114, 115, 116, 117, 118, 119, 120, 121, 122] } : ByteArray)[1]'(by decide)).toNat : Nat) : Int))) = .ok (.string S) (wr.setCell ⟨w.heap.size, m, none⟩ (.int .u8 (((({ data := #[48, 49, 50, 51, 52, 53, 54, 55, 56, 57, 97, 98, 99, 100, 101, 102, 103, 104, 105, 106, 107, 108, 109, 110, 111, 112, 113, 114, 115, 116, 117, 118, 119, 120, 121, 122] } : ByteArray)[1]'(by decide)).toNat : Nat) : Int))) := HT
        clear HT
        go_wp2
        refine bodyPost_ret (v := .tuple #[.slice none 0 0, .string S]) (by simp [results, Tryd.results86, go_sem]; try rfl) rfl ?_
        exact ⟨by rw [HXS.out], HB2.out⟩
    · have h2' : (2 : Int) ≤ (v : Int) := by omega
      have HE : Hid (binF (15 - (k + 1)) (v / 2) ++ (dg v :: l) = B) := by
        show _ = _
        rw [← HQ.out]
        obtain ⟨f, hf⟩ : ∃ f, 15 - k = f + 1 := ⟨15 - k - 1, by
          have := HV.out
          rcases Nat.lt_or_ge k 15 with h3 | h3
          · omega
          · exfalso
            obtain rfl : k = 15 := by omega
            simp at this; omega⟩
        rw [hf, show 15 - (k + 1) = f by omega, binF, if_neg h2, List.append_assoc]
        congr 1
        have : dg (v % 2) = dg v := by unfold dg; rw [Nat.mod_mod]
        rw [this]
        rfl
      have hk2 : k + 1 ≤ 15 := by
        have := HV.out
        rcases Nat.lt_or_ge k 15 with h3 | h3
        · omega
        · exfalso
          obtain rfl : k = 15 := by omega
          simp at this; omega
      have HV2 : Hid (v / 2 < 2 ^ (16 - (k + 1))) := by
        show _ < _
        have := HV.out
        rw [show 16 - k = (16 - (k + 1)) + 1 by omega, Nat.pow_succ] at this
        omega
      obtain ⟨v2, hv2⟩ : ∃ v2, v / 2 = v2 := ⟨_, rfl⟩
      have e4 : ((v : Int) / 2) = (v2 : Int) := by omega
      rw [hv2] at HE HV2
      have hv2b : v2 < 65536 := by omega
      clear hs HQ HR HV HR0 HU HS HB HB0
      have h01 : v % 2 = 0 ∨ v % 2 = 1 := by omega
      rcases h01 with e3 | e3
      · rw [e3] at hA HR2 HB2
        go_wp2
        go_roundw
        case rel => exact ⟨m, k + 1, v2, dg v :: l, by omega, hk2, by go_num, by go_num, hv2b, by rw [List.length_cons, hl], HV2, HR2, HE, HB2⟩
        case measure => simp [intOf]
      · rw [e3] at hA HR2 HB2
        go_wp2
        go_roundw
        case rel => exact ⟨m, k + 1, v2, dg v :: l, by omega, hk2, by go_num, by go_num, hv2b, by rw [List.length_cons, hl], HV2, HR2, HE, HB2⟩
        case measure => simp [intOf]

theorem ifmt_c (u : Nat) (hu : u < 65536) (w : World) (ht : Tb w) : Calls Tryd.prog 75 #[.int .i64 u, .int .i64 2] w fun e w' => e = .returned (.string (tx (binT u))) ∧ Below w.heap.size w w' := by
  have q := fb_c u hu w ht
  have e1 : IntKind.u64.wrap (u : Int) = (u : Int) := by rw [IntKind.wrap_u64]; omega
  have e2 : ¬ (u : Int) < 0 := by omega
  generalize tx (binT u) = S at q ⊢
  go_enter Tryd.func75, Tryd.ntmps75
  go_wp2_with fail
  refine q.mono ?_
  clear q
  rintro e w1 ⟨rfl, hb⟩
  have HB : Hid (Below w.heap.size w w1) := hb
  clear hb
  go_wp2
  go_ret
  exact ⟨rfl, HB.out⟩

theorem fmt_c (u : Nat) (hu : u < 65536) (w : World) (ht : Tb w) : Calls Tryd.prog 62 #[.int .i64 u, .int .i64 2] w fun e w' => e = .returned (.string (tx (binT u))) ∧ Below w.heap.size w w' := by
  have q := ifmt_c u hu w ht
  generalize tx (binT u) = S at q ⊢
  go_enter Tryd.func62, Tryd.ntmps62
  go_wp2_with fail
  refine q.mono ?_
  clear q
  rintro e w1 ⟨rfl, hb⟩
  have HB : Hid (Below w.heap.size w w1) := hb
  clear hb
  go_wp2
  go_ret
  exact ⟨rfl, HB.out⟩

end Go.Proofs.YtjpegbodhpnflaaDoor
