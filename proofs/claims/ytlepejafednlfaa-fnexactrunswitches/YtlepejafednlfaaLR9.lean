/- Chapter 9: the switches run, of the specification. -/
import Derived.Test.YtlepejafednlfaaSX9
import Derived.Test.YtlepejafednlfaaC9
namespace Go.Proofs.Ytlepejafednlfaa
set_option linter.unusedVariables false
set_option maxRecDepth 1000000
set_option linter.unusedSimpArgs false
open Go.RowKit

/-- What running 2 to the d ports does. -/
def RunOk (H N d : Nat) : Prop := ∀ (b o c : Nat) (bo : Option Addr) (e : Nat) (s : List Bool) (l : List ByteArray) (w : World), RdBits w b o N s → N ≤ c → c ≤ maxLen → l.length = H → RdS w bo l →
  Calls Try.prog 77 #[.slice (some ⟨b, o, none⟩) N c, .slice bo H e] w fun en w' => ∃ a' c', en = .returned (.slice a' H c') ∧ OwnS w' w.heap.size (.slice a' H c') (runL d s l) ∧ Below w.heap.size w w'

set_option maxHeartbeats 4000000 in
theorem l9Run_1 (ao : Option Addr) (c : Nat) (bo : Option Addr) (e : Nat) (l : List ByteArray) (w : World) (hl : l.length = 1) (hr : RdS w bo l) :
    Calls Try.prog 77 #[.slice ao 0 c, .slice bo 1 e] w fun en w' => ∃ a' c', en = .returned (.slice a' 1 c') ∧ OwnS w' w.heap.size (.slice a' 1 c') l ∧ Below w.heap.size w w' := by
  obtain ⟨i0, hi, hz0, hz1, hz2⟩ := info_parts Try.infoStr
  obtain ⟨b, o, rfl, g1⟩ := hr.get9 (k := 0) (by omega)
  obtain ⟨x, rfl⟩ : ∃ x, l = [x] := by
    match l, hl with
    | [x], _ => exact ⟨x, rfl⟩
  simp at g1
  have hc : ∀ j u, [Value.string x][j]? = some u → (w.alloc (.cells #[] 9)).cell? ((⟨b, o, none⟩ : Addr).add j) = some u := by
    intro j u hj
    cases j with
    | zero => simp at hj; subst hj; rw [Go.WideShapes.add_plain]; exact calloc g1
    | succ j => simp at hj
  clear hr hl g1
  go_enter Try.func77, Try.ntmps77
  go_wp2_with (at_builtin; refine wpList_append_own _ rfl _ _ 29 rfl w.heap.size 9 i0 (.string ByteArray.empty) 1 16 Try.underlying29 hi hz0 hz1 hz2 rfl (by decide) _ 0 [] rfl (nil_rowS9 w) ⟨b, o, none⟩ 1 e [.string x] rfl rfl hc (strs_oneCell [x]) (by unfold maxLen; omega) (by omega) (by simp) ?_; intro v' w2 hown' hgrow _; have HO2 : Hid (OwnS w2 w.heap.size v' [x]) := own_allS9 (ls := [x]) hown' rfl; have HB2 : Hid (Below w.heap.size w w2) := (balloc w _).grown hgrow (by simp) (fun q hq => by have e : w.heap.size = q := Option.some.inj hq; omega); clear hown' hgrow)
  obtain ⟨a', c', hv⟩ := HO2.out.shape
  subst hv
  go_ret
  exact ⟨a', c', rfl, HO2.out, HB2.out⟩

set_option maxHeartbeats 4000000 in
theorem l9Run_2 : RunOk 2 1 1 := by
  intro b o c bo e s l w hb hc1 hc2 hl hr
  obtain ⟨b1, o1, rfl, t1⟩ := hr.get9 (k := 0) (by omega)
  obtain ⟨b2, o2, hbo, t2⟩ := hr.get9 (k := 1) (by omega)
  cases hbo
  have t3 := hb.2 0 (by omega)
  rw [show ByteArray.empty = nilS from rfl] at t1 t2
  have HQ : Hid (∀ wx, Calls Try.prog 102 #[.string (l.getD 0 nilS), .string (l.getD 1 nilS), .bool (s.getD 0 false)] wx fun e w' => e = .returned (.tuple #[.string (crA (s.getD 0 false) (l.getD 0 nilS) (l.getD 1 nilS)), .string (crB (s.getD 0 false) (l.getD 0 nilS) (l.getD 1 nilS))]) ∧ w' = wx) := fun wx => l9Cross_c _ _ _ wx
  rw [runL]
  generalize crA (s.getD 0 false) (l.getD 0 nilS) (l.getD 1 nilS) = ca at HQ ⊢
  generalize crB (s.getD 0 false) (l.getD 0 nilS) (l.getD 1 nilS) = cb at HQ ⊢
  generalize l.getD 0 nilS = xa at t1 HQ
  generalize l.getD 1 nilS = xb at t2 HQ
  generalize s.getD 0 false = sb at t3 HQ
  simp only [Nat.add_zero] at t1 t3
  clear hr hb hl
  go_enter Try.func77, Try.ntmps77
  go_wp2
  go_quiet ((go_at_call 102; exact Calls.quiet_of_same (HQ.out _)))
  obtain ⟨wq, hwq⟩ : ∃ wq, w.drewN nq = wq := ⟨_, rfl⟩
  have HBQ : Hid (Below w.heap.size w wq) := by show Below _ _ _; rw [← hwq]; exact below_drewN (Below.refl _ _) _
  rw [hwq]
  clear hwq t1 t2 t3 HQ
  have HO : Hid (OwnS (wq.alloc (.cells #[.string ca, .string cb] 9)) w.heap.size (.slice (some ⟨wq.heap.size, 0, none⟩) 2 2) [ca, cb]) := (lit2_own wq ca cb).mono HBQ.out.size
  go_wp2
  go_ret
  exact ⟨_, _, rfl, HO.out, HBQ.out.alloc HBQ.out.size _⟩

end Go.Proofs.Ytlepejafednlfaa
