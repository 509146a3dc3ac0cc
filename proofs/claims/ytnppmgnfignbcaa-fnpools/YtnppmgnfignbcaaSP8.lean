/- Chapter 8, the specification: a text put into a mix. -/
import Derived.Test.YtnppmgnfignbcaaST8
import Derived.Test.YtnppmgnfignbcaaWR8
import Derived.BigRegion
namespace Go.Proofs.Ytnppmgnfignbcaa
set_option linter.unusedVariables false
set_option maxRecDepth 1000000
set_option linter.unusedSimpArgs false
open Go.RowKit

/-- A mix's value whose lists are rows of one's own, from B on. -/
structure MixOwn (w : World) (B : Nat) (p : Option Addr) (c : Nat) (s : Option Addr) (d : Nat) (z : MixV) : Prop where
  op : OwnS w B (.slice p z.pool.length c) z.pool
  os : Own w B (.slice s z.seen.length d) z.seen
theorem MixOwn.later {w w' : World} {B : Nat} {p s : Option Addr} {c d : Nat} {z : MixV} (h : MixOwn w B p c s d z) (hb : Below w.heap.size w w') : MixOwn w' B p c s d z := ⟨h.op.later hb, h.os.later hb⟩
theorem MixOwn.mono {w : World} {B B' : Nat} {p s : Option Addr} {c d : Nat} {z : MixV} (h : MixOwn w B p c s d z) (hb : B' ≤ B) : MixOwn w B' p c s d z := ⟨h.op.mono hb, h.os.mono hb⟩
theorem MixOwn.rd {w : World} {B : Nat} {p s : Option Addr} {c d : Nat} {z : MixV} (h : MixOwn w B p c s d z) : MixRd w p c s d z := MixRd.of h.op h.os
theorem MixOwn.off {w : World} {B lo hi : Nat} {p s : Option Addr} {c d : Nat} {z : MixV} (h : MixOwn w B p c s d z) (hb : hi ≤ B) : OffM lo hi p s z := offM_new h.op h.os hb
theorem MixOwn.kept {w w' : World} {B g : Nat} {p s : Option Addr} {c d : Nat} {z : MixV} (h : MixOwn w B p c s d z) (hg : w.grownBy w' (some g)) (hne : (∀ k, (Value.slice p z.pool.length c).ownBlock = some k → k ≠ g) ∧ ∀ k, (Value.slice s z.seen.length d).ownBlock = some k → k ≠ g) : MixOwn w' B p c s d z := by
  refine ⟨h.op.kept hg ?_, h.os.kept hg ?_⟩
  · cases e : (Value.slice p z.pool.length c).ownBlock with
    | none => exact Or.inl rfl
    | some k => exact Or.inr fun e2 => hne.1 k e (Option.some.inj e2)
  · cases e : (Value.slice s z.seen.length d).ownBlock with
    | none => exact Or.inl rfl
    | some k => exact Or.inr fun e2 => hne.2 k e (Option.some.inj e2)
theorem MixOwn.lt {w : World} {B : Nat} {p s : Option Addr} {c d : Nat} {z : MixV} (h : MixOwn w B p c s d z) : (∀ k, (Value.slice p z.pool.length c).ownBlock = some k → B ≤ k ∧ k < w.heap.size) ∧ ∀ k, (Value.slice s z.seen.length d).ownBlock = some k → B ≤ k ∧ k < w.heap.size := ⟨World.ownsRow.lt h.op, World.ownsRow.lt h.os⟩

/-- What l8Put hands back. -/
def PutV (w' : World) (B : Nat) (e : Ending) (z : MixV) (code : Int) : Prop := ∃ p c s d, e = .returned (.tuple #[.agg #[.slice p z.pool.length c, .int .i64 z.least, .int .i64 z.wait, .int .i64 z.old, .slice s z.seen.length d], .int .i64 code]) ∧ MixOwn w' B p c s d z

set_option maxHeartbeats 2000000 in
theorem l8Put_one (B : Nat) (p s : Option Addr) (n c m d : Nat) (z : MixV) (t : ByteArray) (w : World) (hpl : z.pool.length = n) (hsl : z.seen.length = m) (hm : m ≤ 1000) (hB : B ≤ w.heap.size) (ho : MixOwn w B p c s d z) (ht : t.size ≤ 9223372036854775807) (h1 : tagN t ∈ z.seen) :
    Calls Try.prog 59 #[.agg #[.slice p n c, .int .i64 z.least, .int .i64 z.wait, .int .i64 z.old, .slice s m d], .string t] w fun e w' => PutV w' B e z 1 ∧ Below w.heap.size w w' := by
  obtain ⟨xs, za, zb, zt, ys⟩ := z
  obtain ⟨W0, hW0, hC0, hD0, hB0, hS0⟩ := two_boxes w (.slice p n c) za zb zt (.slice s m d) 41
  have HB0 : Hid (Below w.heap.size w W0) := hB0
  have HLT : Hid ((∀ k, (Value.slice p n c).ownBlock = some k → k < w.heap.size) ∧ ∀ k, (Value.slice s m d).ownBlock = some k → k < w.heap.size) := by
    have h := ho.lt
    have e1 : xs.length = n := hpl
    have e2 : ys.length = m := hsl
    simp only [e1, e2] at h
    exact ⟨fun k e => (h.1 k e).2, fun k e => (h.2 k e).2⟩
  have HO : Hid (MixOwn w B p c s d ⟨xs, za, zb, zt, ys⟩) := ho
  have HPL : Hid (xs.length = n) := hpl
  have HSL : Hid (ys.length = m) := hsl
  have HQ1 : Hid (∀ wx, Calls Try.prog 83 #[.string t] wx fun e w' => e = .returned (.int .i64 (tagN t)) ∧ w' = wx) := fun wx => l8Tag_c t wx ht
  have HQ2 : Hid (∀ k, Calls Try.prog 84 #[.slice s m d, .int .i64 (tagN t)] (W0.drewN k) fun e w' => e = .returned (.bool true) ∧ w' = W0.drewN k) := fun k => by
    have h := l1Has_c s m d (tagN t) ys (W0.drewN k) hsl (by omega) ((ho.rd.rs.later hB0).later (below_drewN (Below.refl _ _) k))
    rw [decide_eq_true h1] at h; exact h
  generalize tagN t = g at HQ1 HQ2
  obtain ⟨⟨c0, c1, c2, c3, c4⟩, f⟩ := hC0
  obtain ⟨⟨e0, e1, e2, e3, e4⟩, ef⟩ := hD0
  have ef0 := ef 0; have ef1 := ef 1; have ef2 := ef 2; have ef3 := ef 3; have ef4 := ef 4
  clear f ef hB0 hS0 ho hpl hsl h1
  go_enter Try.func59, Try.ntmps59
  go_wp2
  go_quiet (first | (go_at_call 83; exact Calls.quiet_of_same (HQ1.out _)) | (go_at_call 84; exact Calls.quiet_of_same (HQ2.out _)))
  obtain ⟨V, hV⟩ : ∃ V, W0.drewN nq = V := ⟨_, rfl⟩
  have HBV : Hid (Below w.heap.size w V) := by rw [← hV]; exact below_drewN HB0.out _
  rw [hV]
  have C0 : V.cell? ⟨w.heap.size, 0, none⟩ = some (.slice p n c) := by rw [← hV]; exact c0
  have C1 : V.cell? ⟨w.heap.size, 1, none⟩ = some (.int .i64 za) := by rw [← hV]; exact c1
  have C2 : V.cell? ⟨w.heap.size, 2, none⟩ = some (.int .i64 zb) := by rw [← hV]; exact c2
  have C3 : V.cell? ⟨w.heap.size, 3, none⟩ = some (.int .i64 zt) := by rw [← hV]; exact c3
  have C4 : V.cell? ⟨w.heap.size, 4, none⟩ = some (.slice s m d) := by rw [← hV]; exact c4
  have E0 : V.cell? ⟨w.heap.size + 1, 0, none⟩ = some (.slice none 0 0) := by rw [← hV]; exact e0
  have E1 : V.cell? ⟨w.heap.size + 1, 1, none⟩ = some (.int .i64 0) := by rw [← hV]; exact e1
  have E2 : V.cell? ⟨w.heap.size + 1, 2, none⟩ = some (.int .i64 0) := by rw [← hV]; exact e2
  have E3 : V.cell? ⟨w.heap.size + 1, 3, none⟩ = some (.int .i64 0) := by rw [← hV]; exact e3
  have E4 : V.cell? ⟨w.heap.size + 1, 4, none⟩ = some (.slice none 0 0) := by rw [← hV]; exact e4
  have F0 : V.frozen? ⟨w.heap.size + 1, 0, none⟩ = false := by rw [← hV]; exact ef0
  have F1 : V.frozen? ⟨w.heap.size + 1, 1, none⟩ = false := by rw [← hV]; exact ef1
  have F2 : V.frozen? ⟨w.heap.size + 1, 2, none⟩ = false := by rw [← hV]; exact ef2
  have F3 : V.frozen? ⟨w.heap.size + 1, 3, none⟩ = false := by rw [← hV]; exact ef3
  have F4 : V.frozen? ⟨w.heap.size + 1, 4, none⟩ = false := by rw [← hV]; exact ef4
  clear c0 c1 c2 c3 c4 e0 e1 e2 e3 e4 ef0 ef1 ef2 ef3 ef4 hV HQ1 HQ2 hW0
  go_wp2
  refine bodyPost_ret (v := .tuple #[.agg #[.slice p n c, .int .i64 za, .int .i64 zb, .int .i64 zt, .slice s m d], .int .i64 1]) (by simp [results, Try.results59, go_sem, E0, E1, E2, E3, E4]; try rfl) rfl ?_
  refine ⟨⟨p, c, s, d, ?_, ?_⟩, HBV.out.trans (below_grown (put5_grown _ _ _ _ _ _ _) (by omega) HBV.out.size)⟩
  · show _ = Ending.returned (.tuple #[.agg #[.slice p xs.length c, .int .i64 za, .int .i64 zb, .int .i64 zt, .slice s ys.length d], .int .i64 1])
    rw [HPL.out, HSL.out]
  · refine (HO.out.later HBV.out).kept (put5_grown V (w.heap.size + 1) (.slice p n c) za zb zt (.slice s m d)) ⟨fun k e => ?_, fun k e => ?_⟩
    · have := HLT.out.1 k (by rw [← HPL.out]; exact e); omega
    · have := HLT.out.2 k (by rw [← HSL.out]; exact e); omega

end Go.Proofs.Ytnppmgnfignbcaa
