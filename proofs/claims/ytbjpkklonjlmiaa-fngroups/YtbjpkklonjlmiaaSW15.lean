/- Chapter 15: slices.swapRangeCmpFunc, rotateCmpFunc at steps. -/
import Derived.Test.YtbjpkklonjlmiaaGW15
namespace Go.Proofs.Ytbjpkklonjlmiaa
set_option linter.unusedVariables false
set_option maxRecDepth 1000000
set_option linter.unusedSimpArgs false
open Go.RowKit Go.Sort Go.Shelf Go.Lib

theorem swp_perm (d : Array Stp) {i j : Nat} (hi : i < d.size) (hj : j < d.size) : (swp d i j).toList.Perm d.toList := by
  have h := (swp_permIn (α := Stp) d 0 d.size i j (Nat.zero_le _) hi (Nat.zero_le _) hj (Nat.le_refl _)).2.2
  have e1 : (swp d i j).extract 0 d.size = swp d i j := by rw [← size_swp d i j]; simp
  have e2 : d.extract 0 d.size = d := by simp
  rw [e1, e2] at h
  exact h

set_option maxHeartbeats 4000000 in
set_option maxRecDepth 1000000 in
theorem swapRange_c (k : Nat) (hk3 : k = 3) (enc : Stp → List Value) (g cap a b n : Nat) (d0 d : Array Stp) (w0 w : World) (R : RowK enc k w0 g 0 d0) (hs : d.size = d0.size) (S : SWK enc k w0 g 0 d w) (h1 : a + n ≤ b) (h2 : b + n ≤ d.size) (hsz : d.size ≤ 1000) (f : Value) :
    Calls Try.prog 83 #[.slice (some ⟨g, 0, none⟩) d.size cap, .int .i64 a, .int .i64 b, .int .i64 n, f] w fun e w' => e = .returned (.tuple #[]) ∧ ∃ d', SWK enc k w0 g 0 d' w' ∧ d'.size = d.size ∧ d'.toList.Perm d.toList ∧ ∀ x, d'[x]! = if a ≤ x ∧ x < a + n then d[b + (x - a)]! else if b ≤ x ∧ x < b + n then d[a + (x - b)]! else d[x]! := by
  have mixed : Try.prog.follows .mixedOrders = true := by kernel_rfl
  have t3 : Try.prog.underlying 3 = some (TypeDesc.int IntKind.i64) := by kernel_rfl
  have a3 : ∀ w, (isAgg 3).run Try.prog w = .ok false w := fun _ => by kernel_rfl
  have z3 : ∀ w, (Go.sizeOf 3).run Try.prog w = .ok 1 w := fun _ => by kernel_rfl
  have v3 : ∀ w, (zeroValue 3).run Try.prog w = .ok (Value.int IntKind.i64 0) w := fun _ => by kernel_rfl
  have t4 : Try.prog.underlying 4 = some TypeDesc.bool := by kernel_rfl
  have a4 : ∀ w, (isAgg 4).run Try.prog w = .ok false w := fun _ => by kernel_rfl
  have z4 : ∀ w, (Go.sizeOf 4).run Try.prog w = .ok 1 w := fun _ => by kernel_rfl
  have t22 : Try.prog.underlying 68 = some (TypeDesc.slice 78) := by kernel_rfl
  have a22 : ∀ w, (isAgg 68).run Try.prog w = .ok false w := fun _ => by kernel_rfl
  have z22 : ∀ w, (Go.sizeOf 68).run Try.prog w = .ok 1 w := fun _ => by kernel_rfl
  have u22 := run_underlying t22
  have aE : ∀ w, (isAgg 78).run Try.prog w = .ok true w := fun _ => by kernel_rfl
  have zE : ∀ w, (Go.sizeOf 78).run Try.prog w = .ok k w := fun _ => by subst hk3; kernel_rfl
  have S0 : Aside (SWK enc k w0 g 0 d w) := S
  clear S
  go_enter Try.func83, Try.ntmps83
  generalize Try.prog = P at mixed t3 a3 z3 v3 t4 a4 z4 t22 a22 z22 u22 aE zE ⊢
  clear hk3
  go_wp2
  go_loopg [10] n (fun kx iv wr => ∃ (i : Nat) (dk : Array Stp), iv = .int .i64 i ∧ i ≤ n ∧ n - i ≤ kx ∧ dk.size = d.size ∧ Aside (SWK enc k w0 g 0 dk wr) ∧ Hid (dk.toList.Perm d.toList ∧ ∀ x, dk[x]! = if a ≤ x ∧ x < a + i then d[b + (x - a)]! else if b ≤ x ∧ x < b + i then d[a + (x - b)]! else d[x]!))
  case atStart => exact ⟨0, d, rfl, Nat.zero_le _, Nat.le_refl _, rfl, S0, ⟨List.Perm.refl _, fun x => by rw [if_neg (by omega), if_neg (by omega)]⟩⟩
  case round =>
    clear S0
    obtain ⟨i, dk, rfl, hin, hkx, hds, S1, HP⟩ := hrel
    by_cases hlt : i < n
    · have ltz : (i : Int) < (n : Int) := by omega
      go_wp2_with fail
      have ea44 : ((a : Int) + (i : Int)).toNat = a + i := by omega
      have pa44 : (0 : Int) ≤ (a : Int) + (i : Int) := by omega
      have ba44 : (a : Int) + (i : Int) < (d.size : Int) := by omega
      have ra44 : IntKind.i64.wrap ((a : Int) + (i : Int)) = (a : Int) + (i : Int) := by rw [IntKind.wrap_i64]; omega
      have ec44 : ((b : Int) + (i : Int)).toNat = b + i := by omega
      have pc44 : (0 : Int) ≤ (b : Int) + (i : Int) := by omega
      have bc44 : (b : Int) + (i : Int) < (d.size : Int) := by omega
      have rc44 : IntKind.i64.wrap ((b : Int) + (i : Int)) = (b : Int) + (i : Int) := by rw [IntKind.wrap_i64]; omega
      have S2 : Aside (SWK enc k w0 g 0 (swp dk (a + i) (b + i)) ((wr.drew.setCells g (0 + (a + i) * k) (enc dk[b + i]!)).setCells g (0 + (b + i) * k) (enc dk[a + i]!))) := S1.out.swapped R (a + i) (b + i) (by omega) (by omega)
      have l44a := S1.out.ld1 R (by omega) P (a + i) (by omega)
      have l44b := S1.out.ld1 R (by omega) P (b + i) (by omega)
      have s44a := S1.out.st1 R (by omega) P (a + i) (by omega) dk[b + i]!
      have s44b := S1.out.st2 R (by omega) P (a + i) (b + i) (by omega) (by omega) dk[b + i]! dk[a + i]!
      have n44a : (enc dk[a + i]!).length = k := R.hk _
      have n44b : (enc dk[b + i]!).length = k := R.hk _
      generalize enc dk[a + i]! = cI44 at S2 l44a s44b n44a
      generalize enc dk[b + i]! = cJ44 at S2 l44b s44a s44b n44b
      rw [Nat.zero_add] at l44a l44b s44a
      rw [Nat.zero_add, Nat.zero_add] at s44b S2
      clear S1
      go_wp2_with fail
      go_big_region_o
      clear l44a l44b s44a s44b
      generalize (wr.drew.setCells g ((a + i) * k) cJ44).setCells g ((b + i) * k) cI44 = w2 at S2 ⊢
      go_wp2
      go_roundg (n - (i + 1))
      case measure => omega
      case rel =>
        refine ⟨i + 1, swp dk (a + i) (b + i), by simp, by omega, Nat.le_refl _, by rw [size_swp]; omega, S2, ⟨(swp_perm dk (by omega) (by omega)).trans HP.out.1, fun x => ?_⟩⟩
        have hx := fun y => HP.out.2 y
        rw [swp_get dk (i := a + i) (j := b + i) (by omega) (by omega)]
        by_cases e1 : x = b + i
        · subst e1
          rw [if_pos rfl, hx (a + i), if_neg (show ¬ (a ≤ a + i ∧ a + i < a + i) by omega), if_neg (show ¬ (b ≤ a + i ∧ a + i < b + i) by omega), if_neg (show ¬ (a ≤ b + i ∧ b + i < a + (i + 1)) by omega), if_pos (show b ≤ b + i ∧ b + i < b + (i + 1) by omega), show b + i - b = i by omega]
        · by_cases e2 : x = a + i
          · subst e2
            rw [if_neg e1, if_pos rfl, hx (b + i), if_neg (show ¬ (a ≤ b + i ∧ b + i < a + i) by omega), if_neg (show ¬ (b ≤ b + i ∧ b + i < b + i) by omega), if_pos (show a ≤ a + i ∧ a + i < a + (i + 1) by omega), show a + i - a = i by omega]
          · rw [if_neg e1, if_neg e2, hx x]
            by_cases c1 : a ≤ x ∧ x < a + i
            · rw [if_pos c1, if_pos (show a ≤ x ∧ x < a + (i + 1) by omega)]
            · rw [if_neg c1, if_neg (show ¬ (a ≤ x ∧ x < a + (i + 1)) by omega)]
              by_cases c2 : b ≤ x ∧ x < b + i
              · rw [if_pos c2, if_pos (show b ≤ x ∧ x < b + (i + 1) by omega)]
              · rw [if_neg c2, if_neg (show ¬ (b ≤ x ∧ x < b + (i + 1)) by omega)]
    · have ltz : ¬ (i : Int) < (n : Int) := by omega
      obtain rfl : i = n := by omega
      go_wp2
      go_end0
      exact ⟨rfl, dk, S1.out, by omega, HP.out.1, HP.out.2⟩

/-- What a rotation lays at a place: the part from m on ahead of the part from a on. -/
def rotD (d : Array Stp) (a m b : Nat) (x : Nat) : Stp := if a ≤ x ∧ x < a + (b - m) then d[m + (x - a)]! else if a + (b - m) ≤ x ∧ x < b then d[x - (b - m)]! else d[x]!

theorem rot_left {d d1 : Array Stp} {m i j : Nat} (hi : i ≤ m) (hij : j < i) (hd : ∀ x, d1[x]! = if m - i ≤ x ∧ x < m - i + j then d[m + (x - (m - i))]! else if m ≤ x ∧ x < m + j then d[m - i + (x - m)]! else d[x]!) (x : Nat) : rotD d1 (m - (i - j)) m (m + j) x = rotD d (m - i) m (m + j) x := by
  unfold rotD
  rw [show m + j - m = j by omega]
  by_cases h1 : m - i ≤ x ∧ x < m - i + j
  · rw [if_pos h1, if_neg (show ¬ (m - (i - j) ≤ x ∧ x < m - (i - j) + j) by omega), if_neg (show ¬ (m - (i - j) + j ≤ x ∧ x < m + j) by omega), hd x, if_pos h1]
  · rw [if_neg h1]
    by_cases h2 : m - (i - j) ≤ x ∧ x < m - (i - j) + j
    · rw [if_pos h2, if_pos (show m - i + j ≤ x ∧ x < m + j by omega), hd, if_neg (show ¬ (m - i ≤ m + (x - (m - (i - j))) ∧ m + (x - (m - (i - j))) < m - i + j) by omega), if_pos (show m ≤ m + (x - (m - (i - j))) ∧ m + (x - (m - (i - j))) < m + j by omega)]
      congr 1; omega
    · rw [if_neg h2]
      by_cases h3 : m - (i - j) + j ≤ x ∧ x < m + j
      · rw [if_pos h3, if_pos (show m - i + j ≤ x ∧ x < m + j by omega), hd, if_neg (show ¬ (m - i ≤ x - j ∧ x - j < m - i + j) by omega), if_neg (show ¬ (m ≤ x - j ∧ x - j < m + j) by omega)]
      · rw [if_neg h3, if_neg (show ¬ (m - i + j ≤ x ∧ x < m + j) by omega), hd, if_neg (show ¬ (m - i ≤ x ∧ x < m - i + j) by omega), if_neg (show ¬ (m ≤ x ∧ x < m + j) by omega)]

theorem rot_right {d d1 : Array Stp} {m i j : Nat} (hi : i ≤ m) (hij : i ≤ j) (hd : ∀ x, d1[x]! = if m - i ≤ x ∧ x < m - i + i then d[m + j - i + (x - (m - i))]! else if m + j - i ≤ x ∧ x < m + j - i + i then d[m - i + (x - (m + j - i))]! else d[x]!) (x : Nat) : rotD d1 (m - i) m (m + (j - i)) x = rotD d (m - i) m (m + j) x := by
  unfold rotD
  rw [show m + j - m = j by omega, show m + (j - i) - m = j - i by omega]
  by_cases h0 : m - i ≤ x ∧ x < m + j
  · by_cases h1 : x < m - i + (j - i)
    · rw [if_pos (show m - i ≤ x ∧ x < m - i + (j - i) by omega), if_pos (show m - i ≤ x ∧ x < m - i + j by omega), hd, if_neg (show ¬ (m - i ≤ m + (x - (m - i)) ∧ m + (x - (m - i)) < m - i + i) by omega), if_neg (show ¬ (m + j - i ≤ m + (x - (m - i)) ∧ m + (x - (m - i)) < m + j - i + i) by omega)]
    · rw [if_neg (show ¬ (m - i ≤ x ∧ x < m - i + (j - i)) by omega)]
      by_cases h2 : x < m + (j - i)
      · rw [if_pos (show m - i + (j - i) ≤ x ∧ x < m + (j - i) by omega), if_pos (show m - i ≤ x ∧ x < m - i + j by omega), hd, if_pos (show m - i ≤ x - (j - i) ∧ x - (j - i) < m - i + i by omega)]
        congr 1; omega
      · rw [if_neg (show ¬ (m - i + (j - i) ≤ x ∧ x < m + (j - i)) by omega), if_neg (show ¬ (m - i ≤ x ∧ x < m - i + j) by omega), if_pos (show m - i + j ≤ x ∧ x < m + j by omega), hd, if_neg (show ¬ (m - i ≤ x ∧ x < m - i + i) by omega), if_pos (show m + j - i ≤ x ∧ x < m + j - i + i by omega)]
        congr 1; omega
  · rw [if_neg (show ¬ (m - i ≤ x ∧ x < m - i + (j - i)) by omega), if_neg (show ¬ (m - i + (j - i) ≤ x ∧ x < m + (j - i)) by omega), if_neg (show ¬ (m - i ≤ x ∧ x < m - i + j) by omega), if_neg (show ¬ (m - i + j ≤ x ∧ x < m + j) by omega), hd, if_neg (show ¬ (m - i ≤ x ∧ x < m - i + i) by omega), if_neg (show ¬ (m + j - i ≤ x ∧ x < m + j - i + i) by omega)]

set_option maxHeartbeats 4000000 in
set_option maxRecDepth 1000000 in
theorem rotate_c (k : Nat) (hk3 : k = 3) (enc : Stp → List Value) (g cap a m b : Nat) (d0 d : Array Stp) (w0 w : World) (R : RowK enc k w0 g 0 d0) (hs : d.size = d0.size) (S : SWK enc k w0 g 0 d w) (h1 : a < m) (h2 : m < b) (h3 : b ≤ d.size) (hsz : d.size ≤ 1000) (f : Value) :
    Calls Try.prog 82 #[.slice (some ⟨g, 0, none⟩) d.size cap, .int .i64 a, .int .i64 m, .int .i64 b, f] w fun e w' => e = .returned (.tuple #[]) ∧ ∃ d', SWK enc k w0 g 0 d' w' ∧ d'.size = d.size ∧ d'.toList.Perm d.toList ∧ ∀ x, d'[x]! = rotD d a m b x := by
  have S0 : Aside (SWK enc k w0 g 0 d w) := S
  have RR : Aside (RowK enc k w0 g 0 d0) := R
  have HS : Hid (d.size = d0.size) := hs
  clear S R hs
  go_enter Try.func82, Try.ntmps82
  go_wp2
  go_loopg [10, 11] (m - a + (b - m)) (fun kx iv jv wr => ∃ (i j : Nat) (dk : Array Stp), iv = .int .i64 i ∧ jv = .int .i64 j ∧ 1 ≤ i ∧ 1 ≤ j ∧ i ≤ m - a ∧ j ≤ b - m ∧ i + j ≤ kx ∧ dk.size = d.size ∧ Aside (SWK enc k w0 g 0 dk wr) ∧ Hid (dk.toList.Perm d.toList ∧ ∀ x, rotD dk (m - i) m (m + j) x = rotD d a m b x))
  case atStart => exact ⟨m - a, b - m, d, by go_num, by go_num, by omega, by omega, Nat.le_refl _, Nat.le_refl _, Nat.le_refl _, rfl, S0, ⟨List.Perm.refl _, fun x => by rw [show m - (m - a) = a by omega, show m + (b - m) = b by omega]⟩⟩
  case round =>
    clear S0
    obtain ⟨i, j, dk, rfl, rfl, hi1, hj1, him, hjb, hkx, hds, S1, HP⟩ := hrel
    by_cases hne : i = j
    · subst hne
      have nez : ((i : Int) != (i : Int)) = false := by simp
      have q := swapRange_c k hk3 enc g cap (m - i) m i d0 dk w0 wr RR.out (by have := HS.out; omega) S1.out (by omega) (by omega) (by omega) f
      rw [hds, show ((m - i : Nat) : Int) = (m : Int) - (i : Int) by omega] at q
      clear S1
      go_wp2_with fail
      refine q.mono ?_
      clear q
      rintro e w1 ⟨rfl, d1, S2, hs1, hp1, hd1⟩
      have SS : Aside (SWK enc k w0 g 0 d1 w1) := S2
      have HF : Hid (d1.toList.Perm d.toList ∧ d1.size = d.size ∧ ∀ x, d1[x]! = rotD d a m b x) := ⟨hp1.trans HP.out.1, by omega, fun x => by
        rw [← HP.out.2 x, hd1 x]
        unfold rotD
        rw [show m + i - m = i by omega]
        by_cases c1 : m - i ≤ x ∧ x < m - i + i
        · rw [if_pos c1, if_pos c1]
        · rw [if_neg c1, if_neg c1]
          by_cases c2 : m ≤ x ∧ x < m + i
          · rw [if_pos c2, if_pos (show m - i + i ≤ x ∧ x < m + i by omega)]
            congr 1; omega
          · rw [if_neg c2, if_neg (show ¬ (m - i + i ≤ x ∧ x < m + i) by omega)]⟩
      clear S2 hs1 hp1 hd1
      go_wp2
      go_end0
      exact ⟨rfl, d1, SS.out, HF.out.2.1, HF.out.1, HF.out.2.2⟩
    · have nez : ((i : Int) != (j : Int)) = true := by simp; omega
      by_cases hgt : j < i
      · have gtz : (j : Int) < (i : Int) := by omega
        have q := swapRange_c k hk3 enc g cap (m - i) m j d0 dk w0 wr RR.out (by have := HS.out; omega) S1.out (by omega) (by omega) (by omega) f
        rw [hds, show ((m - i : Nat) : Int) = (m : Int) - (i : Int) by omega] at q
        clear S1
        go_wp2_with fail
        refine q.mono ?_
        clear q
        rintro e w1 ⟨rfl, d1, S2, hs1, hp1, hd1⟩
        have SS : Aside (SWK enc k w0 g 0 d1 w1) := S2
        have HF : Hid (d1.toList.Perm d.toList ∧ d1.size = d.size ∧ ∀ x, rotD d1 (m - (i - j)) m (m + j) x = rotD d a m b x) := ⟨hp1.trans HP.out.1, by omega, fun x => by rw [rot_left (by omega) hgt hd1 x]; exact HP.out.2 x⟩
        clear S2 hs1 hp1 hd1
        go_wp2
        go_roundg (i - j + j)
        case measure => omega
        case rel => exact ⟨i - j, j, d1, by go_num, rfl, by omega, by omega, by omega, by omega, by omega, HF.out.2.1, SS, ⟨HF.out.1, HF.out.2.2⟩⟩
      · have gtz : ¬ (j : Int) < (i : Int) := by omega
        have q := swapRange_c k hk3 enc g cap (m - i) (m + j - i) i d0 dk w0 wr RR.out (by have := HS.out; omega) S1.out (by omega) (by omega) (by omega) f
        rw [hds, show ((m - i : Nat) : Int) = (m : Int) - (i : Int) by omega, show ((m + j - i : Nat) : Int) = (m : Int) + (j : Int) - (i : Int) by omega] at q
        clear S1
        go_wp2_with fail
        refine q.mono ?_
        clear q
        rintro e w1 ⟨rfl, d1, S2, hs1, hp1, hd1⟩
        have SS : Aside (SWK enc k w0 g 0 d1 w1) := S2
        have HF : Hid (d1.toList.Perm d.toList ∧ d1.size = d.size ∧ ∀ x, rotD d1 (m - i) m (m + (j - i)) x = rotD d a m b x) := ⟨hp1.trans HP.out.1, by omega, fun x => by rw [rot_right (by omega) (by omega) hd1 x]; exact HP.out.2 x⟩
        clear S2 hs1 hp1 hd1
        go_wp2
        go_roundg (i + (j - i))
        case measure => omega
        case rel => exact ⟨i, j - i, d1, rfl, by go_num, by omega, by omega, by omega, by omega, by omega, HF.out.2.1, SS, ⟨HF.out.1, HF.out.2.2⟩⟩

end Go.Proofs.Ytbjpkklonjlmiaa
