/- The rounds as function values, and a block that goes through them. -/
import Derived.Test.YtnfoflijapbkdaaH4
namespace Go.Proofs.Ytnfoflijapbkdaa
set_option linter.unusedVariables false
set_option maxRecDepth 1000000
set_option linter.unusedSimpArgs false
open Go.RowKit

theorem Try.infoRound : (Try.prog.info? 98).map (fun i => (i.zero, i.size, i.bytes)) = some (some .nilFunc, 1, 8) := by kernel_rfl
/-- The rounds of keys: method values of function f. -/
def rndV (f : Nat) (k : Nat) : Value := Value.func (.func f) #[.int .i64 (k : Int)] #[]
def rnds (f : Nat) (ks : List Nat) : List Value := ks.map (rndV f)
theorem rnds_length (f : Nat) (ks : List Nat) : (rnds f ks).length = ks.length := by simp [rnds]
theorem rnds_one (f : Nat) (ks : List Nat) : ∀ u ∈ rnds f ks, u.oneCell' = true := by
  intro u hu
  simp [rnds] at hu
  obtain ⟨k, _, rfl⟩ := hu
  rfl
theorem rnds_at (f : Nat) (ks : List Nat) (j : Nat) (h : j < ks.length) : (rnds f ks)[j]? = some (rndV f (ks.getD j 0)) := by
  simp [rnds, List.getD, h]
def OwnR (f : Nat) (w : World) (base : Nat) (v : Value) (ks : List Nat) : Prop := w.ownsRow base 98 1 v ks.length (rnds f ks)
theorem OwnR.push {f : Nat} {w1 : World} {base : Nat} {v' : Value} {out : List Nat} {x : Nat} (h : w1.ownsRow base 98 1 v' (out.length + 1) (rnds f out ++ [rndV f x])) : OwnR f w1 base v' (out ++ [x]) := by
  unfold OwnR
  rw [show (out ++ [x]).length = out.length + 1 by simp]
  simpa [rnds] using h
theorem OwnR.ge {f : Nat} {w : World} {base : Nat} {v : Value} {xs : List Nat} (h : OwnR f w base v xs) : ∀ k, v.ownBlock = some k → base ≤ k := fun k hk => (World.ownsRow.lt h k hk).1
theorem OwnR.form {f : Nat} {w : World} {base : Nat} {v : Value} {xs : List Nat} (h : OwnR f w base v xs) : (v = .slice none 0 0 ∧ xs = []) ∨ ∃ g cap, v = .slice (some ⟨g, 0, none⟩) xs.length cap ∧ base ≤ g ∧ g < w.heap.size ∧ xs.length ≤ cap ∧ cap ≤ maxLen := by
  rcases h.2 with ⟨h1, h2⟩ | ⟨g, cap, cur, hv, hb, hg, hc, hm, _⟩
  · exact Or.inl ⟨h1, List.length_eq_zero_iff.1 h2⟩
  · exact Or.inr ⟨g, cap, hv, hb, (Array.getElem?_eq_some_iff.1 hg).1, hc, hm⟩
/-- The slice reads as rounds. -/
def RdR (f : Nat) (w : World) (ao : Option Addr) (xs : List Nat) : Prop :=
  xs = [] ∨ ∃ b off, ao = some ⟨b, off, none⟩ ∧ ∀ j, j < xs.length → w.cell? ⟨b, off + j, none⟩ = some (rndV f (xs.getD j 0))
theorem OwnR.rd {f : Nat} {w : World} {base : Nat} {v : Value} {xs : List Nat} (h : OwnR f w base v xs) : ∃ ao cap, v = .slice ao xs.length cap ∧ RdR f w ao xs := by
  rcases h.form with ⟨rfl, rfl⟩ | ⟨g, cap, rfl, _⟩
  · exact ⟨none, 0, rfl, Or.inl rfl⟩
  · refine ⟨_, _, rfl, Or.inr ⟨g, 0, rfl, fun j hj => ?_⟩⟩
    rw [Nat.zero_add, World.ownsRow.cellAt h j (by omega)]
    exact rnds_at f xs j hj
theorem RdR.later {f : Nat} {w w' : World} {ao : Option Addr} {xs : List Nat} (h : RdR f w ao xs) (hb : Below w.heap.size w w') : RdR f w' ao xs := by
  rcases h with h | ⟨b, off, he, hc⟩
  · exact Or.inl h
  · refine Or.inr ⟨b, off, he, fun j hj => ?_⟩
    rw [hb.cell (p := ⟨b, off + j, none⟩) (World.block_lt_of_cell? w _ (hc j hj))]
    exact hc j hj

set_option maxHeartbeats 1000000 in
theorem roundsOf_at (b o n c : Nat) (xs : List Int) (w : World) (hx : xs.length = n) (hn : n ≤ 8) (hk : allIn 0 65535 xs = true)
    (hc : ∀ j, j < n → w.cell? ⟨b, o + j, none⟩ = some (.int .i64 (xs.getD j 0))) :
    Calls Try.prog 78 #[.slice (some ⟨b, o, none⟩) n c] w fun e w' => ∃ a' c', e = .returned (.slice a' n c') ∧ RdR 84 w' a' (nums xs) ∧ Below w.heap.size w w' := by
  obtain ⟨i0, hi, hz0, hz1, hz2⟩ := info_parts Try.infoRound
  have hmf : ∀ (fn : Fn) (first cap : Array Value) (w : World), (Instr.makeFunc fn first cap).run Try.prog w = .ok (.func fn first cap) w := fun _ _ _ _ => rfl
  have HX : Hid (xs.length = n) := hx
  have HC : Hid (∀ j, j < n → w.cell? ⟨b, o + j, none⟩ = some (.int .i64 (xs.getD j 0))) := hc
  have HK : Hid (allIn 0 65535 xs = true) := hk
  have HL : Hid ((nums xs).length = n) := by show _ = _; rw [nums_length]; exact hx
  clear hx hc hk
  go_enter Try.func78, Try.ntmps78
  go_wp2
  go_loopw [3, 8] (fun v i wr => ∃ k : Nat, k ≤ n ∧ i = .int .i64 k ∧ Hid (OwnR 84 wr w.heap.size v ((nums xs).take k)) ∧ Hid (Below w.heap.size w wr)) (fun _ i _ => n - (intOf i).toNat)
  case atStart => exact ⟨0, Nat.zero_le _, rfl, World.ownsRow_nil _ _ _ _, Below.refl _ _⟩
  case round =>
    obtain ⟨k, hk, rfl, hO, hB⟩ := hrel
    by_cases hlt : k < n
    · obtain ⟨y, e1, e2, hy⟩ := keys_at HK.out (j := k) (by rw [HX.out]; exact hlt)
      have hbx := World.block_lt_of_cell? w _ (HC.out k hlt)
      have g1 : wr.cell? ⟨b, o + k, none⟩ = some (.int .i64 y) := by rw [hB.out.cell (p := ⟨b, o + k, none⟩) hbx, HC.out k hlt, e1]
      have hlen : ((nums xs).take k).length = k := by rw [List.length_take, HL.out]; omega
      have HT : Hid ((nums xs).take (k + 1) = (nums xs).take k ++ [y]) := by
        show _ = _
        have hkl : k < (nums xs).length := by rw [HL.out]; exact hlt
        rw [List.take_succ_eq_append_getElem hkl]
        congr 2
        rw [← e2]; simp [List.getD, hkl]
      have hob : ∀ k', u3.ownBlock = some k' → w.heap.size ≤ k' := hO.out.ge
      have hown : wr.ownsRow w.heap.size 98 1 u3 k (rnds 84 ((nums xs).take k)) := by have h := hO.out; unfold OwnR at h; rw [hlen] at h; exact h
      generalize (nums xs).take k = out at *
      have HLo : Hid (out.length = k) := hlen
      have hone : ∀ u ∈ [Value.func (.func 84) #[.int .i64 (y : Int)] #[]], u.oneCell' = true := rnds_one 84 [y]
      clear hlen e1 e2 hbx
      go_wp2_with (at_builtin; refine wpList_append_own _ rfl _ _ 91 rfl w.heap.size 98 i0 .nilFunc 1 8 Try.underlying91 hi hz0 hz1 hz2 rfl (by decide) _ _ _ rfl (hown.alloc _) ⟨wr.heap.size, 0, none⟩ 1 1 [.func (.func 84) #[.int .i64 (y : Int)] #[]] rfl rfl (cell_new1 _ _ _) hone (by unfold maxLen; omega) (by omega) (by have := hB.out.size; simp; omega) ?_; intro v' w2 hown' hgrow _; have HO' : Hid (OwnR 84 w2 w.heap.size v' (out ++ [y])) := OwnR.push (by rw [HLo.out]; exact hown'); have HB' : Hid (Below w.heap.size w w2) := (hB.out.alloc hB.out.size _).grown hgrow (by have := hB.out.size; simp; omega) (fun k' e => hob k' e); clear hown' hgrow)
      go_roundw
      case rel => exact ⟨k + 1, by omega, by go_num, by show OwnR _ _ _ _ _; rw [HT.out]; exact HO'.out, HB'⟩
      case measure => simp [intOf]; omega
    · have he : (nums xs).take k = nums xs := List.take_of_length_le (by rw [HL.out]; omega)
      rw [he] at hO
      obtain ⟨a', c', hv, hrd⟩ := hO.out.rd
      rw [HL.out] at hv
      subst hv
      have HRD : Hid (RdR 84 wr a' (nums xs)) := hrd
      clear he hrd
      go_wp2
      go_ret
      exact ⟨a', c', rfl, HRD.out, hB.out⟩

theorem roundsOf_nil (ao : Option Addr) (c : Nat) (w : World) :
    Calls Try.prog 78 #[.slice ao 0 c] w fun e w' => e = .returned (.slice none 0 0) ∧ w' = w := by
  go_enter Try.func78, Try.ntmps78
  go_wp2
  refine wp_loop_rounds 1 ?_
  rw [rounds_succ]
  go_wp2
  go_ret
  exact ⟨rfl, rfl⟩

theorem roundsOf_c (ao : Option Addr) (n c : Nat) (xs : List Int) (w : World) (hx : xs.length = n) (hk : keysB xs = true) (hr : Rd w ao xs) :
    Calls Try.prog 78 #[.slice ao n c] w fun e w' => ∃ a' c', e = .returned (.slice a' n c') ∧ RdR 84 w' a' (nums xs) ∧ Below w.heap.size w w' := by
  obtain ⟨h8, ha⟩ := keysB_parts hk
  rcases hr with rfl | ⟨b, o, rfl, hc⟩
  · simp at hx; subst hx
    refine (roundsOf_nil ao c w).mono ?_
    rintro e w' ⟨rfl, hw⟩
    subst w'
    exact ⟨none, 0, rfl, Or.inl rfl, Below.refl _ _⟩
  · exact roundsOf_at b o n c xs w hx (by omega) ha (by rw [← hx]; exact hc)

end Go.Proofs.Ytnfoflijapbkdaa
