/- Texts two bytes by two: the program's helpers. -/
import Derived.Test.YtnfoflijapbkdaaK4
import Derived.Laws.BytesArg
import Derived.BigRegion
namespace Go.Proofs.Ytnfoflijapbkdaa
set_option linter.unusedVariables false
set_option maxRecDepth 1000000
set_option linter.unusedSimpArgs false
open Go.RowKit

theorem Try.infoByte : (Try.prog.info? 5).map (fun i => (i.zero, i.size, i.bytes)) = some (some (.int .u8 0), 1, 1) := by kernel_rfl
def cellsU (xs : List Int) : List Value := xs.map (Value.int .u8)
theorem getD_map_u8 (xs : List Int) (j : Nat) (h : j < xs.length) : (cellsU xs)[j]? = some (.int .u8 (xs.getD j 0)) := by
  unfold cellsU; simp [List.getD, h]
def OwnU (w : World) (base : Nat) (v : Value) (xs : List Int) : Prop := w.ownsRow base 5 1 v xs.length (cellsU xs)

def byteN (s : ByteArray) (i : Nat) : Nat := (s.get! i).toNat
theorem byteN_lt (s : ByteArray) (i : Nat) : byteN s i < 256 := (s.get! i).toNat_lt
theorem byteN_eq {s : ByteArray} {i : Nat} (h : i < s.size) : (s[i]'h).toNat = byteN s i := by
  unfold byteN
  congr 1
  simp [ByteArray.get!, ByteArray.get, h, getElem!_def]
  first | rfl | (rw [Array.getElem?_eq_getElem (by exact h)]; rfl) | skip
def pairN (s : ByteArray) (i : Nat) : Nat := 256 * byteN s i + byteN s (i + 1)
theorem pairN_lt (s : ByteArray) (i : Nat) : pairN s i < 65536 := by
  have := byteN_lt s i; have := byteN_lt s (i + 1); unfold pairN; omega
def pairsB (s : ByteArray) : Bool := decide (s.size ≤ 40 ∧ s.size % 2 = 0)

theorem isPairs_c (s : ByteArray) (w : World) (hm : s.size ≤ 17592186044416) :
    Calls Try.prog 77 #[.string s] w fun e w' => e = .returned (.bool (pairsB s)) ∧ w' = w := by
  unfold pairsB
  by_cases h1 : s.size ≤ 40
  · have i1 : (s.size : Int) ≤ 40 := by omega
    by_cases h2 : s.size % 2 = 0
    · have i2 : ((s.size : Int) % 2 == 0) = true := by rw [beq_iff_eq]; omega
      rw [decide_eq_true ⟨h1, h2⟩]
      clear h2
      go_enter Try.func77, Try.ntmps77
      go_wp2
      go_ret
      exact ⟨ret_bool (by first | rfl | exact i2 | simp), rfl⟩
    · have i2 : ((s.size : Int) % 2 == 0) = false := by rw [beq_eq_false_iff_ne]; omega
      rw [decide_eq_false (fun h => h2 h.2)]
      clear h2
      go_enter Try.func77, Try.ntmps77
      go_wp2
      go_ret
      exact ⟨ret_bool (by first | rfl | exact i2 | simp), rfl⟩
  · have i1 : (40 : Int) < (s.size : Int) := by omega
    rw [decide_eq_false (fun h => h1 h.1)]
    go_enter Try.func77, Try.ntmps77
    go_wp2
    go_ret
    exact ⟨rfl, rfl⟩

set_option maxHeartbeats 1000000 in
theorem pairAt_c (s : ByteArray) (i : Nat) (w : World) (hm : s.size ≤ 40) (hi : i + 1 < s.size) :
    Calls Try.prog 80 #[.string s, .int .i64 i] w fun e w' => e = .returned (.int .i64 (pairN s i : Nat)) ∧ Below w.heap.size w w' := by
  have h0 : (0 : Int) ≤ (i : Int) := by omega
  have h1 : (i : Int) < (s.size : Int) := by omega
  have h2 : (0 : Int) ≤ (i : Int) + 1 := by omega
  have h3 : (i : Int) + 1 < (s.size : Int) := by omega
  have hw : wrap64 ((i : Int) + 1) = (i : Int) + 1 := w64 (by omega)
  have hw2 : IntKind.i64.wrap ((i : Int) + 1) = (i : Int) + 1 := by rw [IntKind.wrap_i64]; omega
  have ht : ((i : Int) + 1).toNat = i + 1 := by omega
  go_enter Try.func80, Try.ntmps80
  go_wp2
  go_quiet (fail)
  go_wp2
  go_ret
  refine ⟨ret_int ?_, below_drewN (Below.refl _ _) _⟩
  rw [byteN_eq (show i < s.size by omega), byteN_eq hi]
  have b1 := byteN_lt s i
  have b2 := byteN_lt s (i + 1)
  unfold pairN
  generalize byteN s i = a at *
  generalize byteN s (i + 1) = b at *
  rw [w64 (n := (a : Int)) (by omega), w64 (n := (b : Int)) (by omega), w64 (by omega)]
  have := i64_or b1 b2
  rw [show ((256 * a : Nat) : Int) = (a : Int) * 256 by omega] at this
  exact this

theorem cell_new2 (w : World) (v u : Value) (t : TypeId) : ∀ j x, [v, u][j]? = some x → (w.alloc (.cells #[v, u] t)).cell? ((⟨w.heap.size, 0, none⟩ : Addr).add j) = some x := by
  intro j x hj
  match j, hj with
  | 0, hj => simp at hj; subst hj; rw [Go.WideShapes.add_plain]; simp
  | 1, hj => simp at hj; subst hj; rw [Go.WideShapes.add_plain]; simp
  | j + 2, hj => simp at hj

set_option maxHeartbeats 1000000 in
theorem appendPair_c (v : Value) (B base : Nat) (bs : List Int) (w : World) (hB : B < 65536) (hl : bs.length ≤ 100) (hbase : base ≤ w.heap.size) (ho : OwnU w base v bs) :
    Calls Try.prog 81 #[v, .int .i64 B] w fun e w' => ∃ v', e = .returned v' ∧ OwnU w' base v' (bs ++ [((B / 256 : Nat) : Int), ((B % 256 : Nat) : Int)]) ∧ Below base w w' := by
  obtain ⟨i0, hi, hz0, hz1, hz2⟩ := info_parts Try.infoByte
  obtain ⟨U, hU⟩ : ∃ U : Nat, U = B / 256 := ⟨_, rfl⟩
  obtain ⟨L, hL⟩ : ∃ L : Nat, L = B % 256 := ⟨_, rfl⟩
  have hU1 : (B : Int) / 256 % 256 = (U : Int) := by omega
  have hU2 : (B : Int) / 256 = (U : Int) := by omega
  have hU3 : (U : Int) % 256 = (U : Int) := by omega
  have hL1 : (B : Int) % 256 = (L : Int) := by omega
  rw [← hU, ← hL]
  clear hU hL
  have hob : ∀ k', v.ownBlock = some k' → base ≤ k' := fun k hk => (World.ownsRow.lt ho k hk).1
  have hown : w.ownsRow base 5 1 v bs.length (cellsU bs) := ho
  obtain ⟨q, hq⟩ : ∃ q, bs.length = q := ⟨_, rfl⟩
  rw [hq] at hown
  have HQ : Hid (bs.length = q) := hq
  have hq1 : q ≤ 100 := by omega
  clear ho hq hl
  go_enter Try.func81, Try.ntmps81
  go_wp2_with (at_builtin; refine wpList_append_own _ rfl _ _ 22 rfl base 5 i0 (.int .u8 0) 1 1 Try.underlying22 hi hz0 hz1 hz2 rfl (by decide) _ _ _ rfl (hown.alloc _) ⟨w.heap.size, 0, none⟩ 2 2 [.int .u8 (U : Int), .int .u8 (L : Int)] rfl rfl (cell_new2 _ _ _ _) (by simp [Value.oneCell']) (by unfold maxLen; omega) (by omega) (by simp; omega) ?_; intro v' w2 hown' hgrow _; have HO' : Hid (w2.ownsRow base 5 1 v' (q + 2) (cellsU bs ++ [.int .u8 (U : Int), .int .u8 (L : Int)])) := hown'; have HB' : Hid (Below base w w2) := ((Below.refl _ w).alloc hbase _).grown hgrow (by simp; omega) (fun k' e => hob k' e); clear hown' hgrow)
  go_ret
  refine ⟨v', rfl, ?_, HB'.out⟩
  unfold OwnU
  rw [List.length_append, HQ.out]
  simpa [cellsU] using HO'.out

end Go.Proofs.Ytnfoflijapbkdaa
