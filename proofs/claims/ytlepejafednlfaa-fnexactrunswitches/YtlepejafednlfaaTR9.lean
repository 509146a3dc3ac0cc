/- Chapter 9: texts through the switches of the program. -/
import Derived.Test.YtlepejafednlfaaSO9
import Derived.Test.YtlepejafednlfaaLR9
import Derived.Deep.RegionHeld3
namespace Go.Proofs.Ytlepejafednlfaa
set_option linter.unusedVariables false
set_option maxRecDepth 1000000
set_option linter.unusedSimpArgs false
open Go.RowKit

theorem takeT9 {P : Program} {ops : Array Oper} {Q : Exit → Act → World → Prop} {md : Region.Mode} {S : World → Prop} {i : Nat} {oi : Oper} {v : Value} {d : Option Tmp} {fuel : Nat} {listed : Array Bool} {a : Act} {w : World} (hi : ops[i]? = some oi) (hd : oi.dst = d)
    (hs : Region.noSelect ops = true) (hf : Region.free md ops listed i = true) (hr : (Region.ready md ops listed).contains i = true)
    (hQ : ∀ c a w, Q (.panic c) (a.put d v) w → Q (.panic c) a w) (hy : YieldsIf P ops S oi v a) (hS : S w)
    (h : wpAnyH P md ops Q S fuel (listed.setIfInBounds i true) (a.put d v) w) : wpAnyH P md ops Q S (fuel + 1) listed a w := by
  subst hd
  exact wpAnyH_take hi hs hf hr hQ hy hS h

def ThOk (H N d : Nat) : Prop := ∀ (b o c : Nat) (s : List Bool) (bo : Option Addr) (e : Nat) (l : List ByteArray) (w : World), RdBits w b o N s → l.length = H → RdS w bo l →
  Calls Try.prog 69 #[swV d b o c s, .slice bo H e] w fun en w' => ∃ a' c', en = .returned (.slice a' H c') ∧ OwnS w' w.heap.size (.slice a' H c') (runL d s l) ∧ Below w.heap.size w w'

theorem as93_94 (v : Value) (w : World) : (Instr.typeAssert (.iface 93 v) 65 94 true).run Try.prog w = .ok (.tuple #[.bool false, .bool false]) w := by kernel_rfl
theorem as93_96 (v : Value) (w : World) : (Instr.typeAssert (.iface 93 v) 65 96 true).run Try.prog w = .ok (.tuple #[.agg #[.slice none 0 0, .nilIface, .nilIface, .slice none 0 0], .bool false]) w := by kernel_rfl
theorem as94_94 (v : Value) (w : World) : (Instr.typeAssert (.iface 94 v) 65 94 true).run Try.prog w = .ok (.tuple #[v, .bool true]) w := by kernel_rfl
theorem as96_94 (v : Value) (w : World) : (Instr.typeAssert (.iface 96 v) 65 94 true).run Try.prog w = .ok (.tuple #[.bool false, .bool false]) w := by kernel_rfl
theorem as96_96 (v : Value) (w : World) : (Instr.typeAssert (.iface 96 v) 65 96 true).run Try.prog w = .ok (.tuple #[v, .bool true]) w := by kernel_rfl

set_option maxHeartbeats 2000000 in
theorem through_1 (s : List Bool) (bo : Option Addr) (m e : Nat) (w : World) :
    Calls Try.prog 69 #[swV 0 0 0 0 s, .slice bo m e] w fun en w' => en = .returned (.slice bo m e) ∧ w' = w := by
  have h1 := as93_94
  have h2 := as93_96
  unfold swV
  go_enter Try.func69, Try.ntmps69
  go_wp2
  go_ret
  exact ⟨rfl, rfl⟩

set_option maxHeartbeats 2000000 in
theorem through_2 : ThOk 2 1 1 := by
  intro b o c s bo e l w hb hl hr
  have h1 := as94_94
  obtain ⟨b1, o1, rfl, t1⟩ := hr.get9 (k := 0) (by omega)
  obtain ⟨b2, o2, hbo, t2⟩ := hr.get9 (k := 1) (by omega)
  cases hbo
  rw [show ByteArray.empty = nilS from rfl] at t1 t2
  have HQ : Hid (∀ wx, Calls Try.prog 99 #[.bool (s.getD 0 false), .string (l.getD 0 nilS), .string (l.getD 1 nilS)] wx fun e w' => e = .returned (.tuple #[.string (crA (s.getD 0 false) (l.getD 0 nilS) (l.getD 1 nilS)), .string (crB (s.getD 0 false) (l.getD 0 nilS) (l.getD 1 nilS))]) ∧ w' = wx) := fun wx => passed_c _ _ _ wx
  rw [runL, swV]
  generalize crA (s.getD 0 false) (l.getD 0 nilS) (l.getD 1 nilS) = ca at HQ ⊢
  generalize crB (s.getD 0 false) (l.getD 0 nilS) (l.getD 1 nilS) = cb at HQ ⊢
  generalize l.getD 0 nilS = xa at t1 HQ
  generalize l.getD 1 nilS = xb at t2 HQ
  generalize s.getD 0 false = sb at HQ ⊢
  simp only [Nat.add_zero] at t1
  clear hr hb hl
  go_enter Try.func69, Try.ntmps69
  go_wp2
  go_quiet ((go_at_call 99; exact Calls.quiet_of_same (HQ.out _)))
  obtain ⟨wq, hwq⟩ : ∃ wq, w.drewN nq = wq := ⟨_, rfl⟩
  have HBQ : Hid (Below w.heap.size w wq) := by show Below _ _ _; rw [← hwq]; exact below_drewN (Below.refl _ _) _
  rw [hwq]
  clear hwq t1 t2 HQ
  have HO : Hid (OwnS (wq.alloc (.cells #[.string ca, .string cb] 9)) w.heap.size (.slice (some ⟨wq.heap.size, 0, none⟩) 2 2) [ca, cb]) := (lit2_own wq ca cb).mono HBQ.out.size
  go_wp2
  go_ret
  exact ⟨_, _, rfl, HO.out, HBQ.out.alloc HBQ.out.size _⟩

end Go.Proofs.Ytlepejafednlfaa
