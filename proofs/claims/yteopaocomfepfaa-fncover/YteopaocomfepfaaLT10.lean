/- Chapter 10, the specification: l10Step at a saying. -/
import Derived.Test.YteopaocomfepfaaLO10
import Derived.Deep.RegionHeld3
import Derived.Deep.RegionLaw
namespace Go.Proofs.Yteopaocomfepfaa
set_option linter.unusedVariables false
set_option maxRecDepth 1000000
set_option linter.unusedSimpArgs false
open Go.RowKit

/-- Both appends, in any of the three orders in which their rows are laid: W is the world ahead of the first append, e the empty row's block, l the literal's (if it is laid already). -/
theorem two_appends (W : World) (B : Nat) (e : Nat) (ao : Option Addr) (n c : Nat) (xs : List ByteArray) (s : ByteArray) (hn : n ≤ 1000) (hq : QOk W ao n c xs) (hE : OwnS W B (.slice (some ⟨e, 0, none⟩) 0 0) []) (hB : B ≤ W.heap.size) :
    (∃ a1 c1 w1, (∀ ty, (Builtin.append_ #[27, 27] ty #[.slice (some ⟨e, 0, none⟩) 0 0, .slice ao n c]).run Try.prog W = .ok (.slice a1 n c1) w1) ∧ OwnS w1 B (.slice a1 n c1) xs ∧ Below B W w1 ∧ W.grownBy w1 (some e)) := by
  obtain ⟨v1, w1, r1, o1, g1, b1⟩ := appendS_run W B _ [] xs ao n c hE hq.rd hq.len hq.nil (by simp; omega) hB
  rw [List.nil_append] at o1
  obtain ⟨p1, k1, hv1⟩ := o1.shape
  rw [hq.len] at hv1
  subst hv1
  exact ⟨p1, k1, w1, r1, o1, b1, g1⟩
theorem one_append (W : World) (B : Nat) (a1 : Option Addr) (n c1 l : Nat) (xs : List ByteArray) (s : ByteArray) (hn : n ≤ 1000) (ho : OwnS W B (.slice a1 n c1) xs) (hl : RdS W (some ⟨l, 0, none⟩) [s]) (hB : B ≤ W.heap.size) :
    (∃ a2 c2 w2, (∀ ty, (Builtin.append_ #[27, 27] ty #[.slice a1 n c1, .slice (some ⟨l, 0, none⟩) 1 1]).run Try.prog W = .ok (.slice a2 (n + 1) c2) w2) ∧ OwnS w2 B (.slice a2 (n + 1) c2) (xs ++ [s]) ∧ Below B W w2) := by
  have hx := ho.rd'.1
  obtain ⟨v1, w1, r1, o1, g1, b1⟩ := appendS_run W B _ xs [s] (some ⟨l, 0, none⟩) 1 1 ho hl rfl (fun e => by cases e) (by omega) hB
  obtain ⟨p1, k1, hv1⟩ := o1.shape
  rw [List.length_append, hx] at hv1
  simp only [List.length_cons, List.length_nil, Nat.zero_add] at hv1
  subst hv1
  exact ⟨p1, k1, w1, r1, o1, b1⟩

set_option maxHeartbeats 8000000 in
theorem l10Step_say (ao : Option Addr) (n c : Nat) (t y : Int) (s : ByteArray) (xs : List ByteArray) (w : World) (hn : n < 5) (hq : QOk w ao n c xs) (hs : sayB s = true) :
    Calls Try.prog 62 #[.agg #[.slice ao n c, .int .i64 t, .int .i64 y], .agg #[.int .i64 1, .string s]] w fun e w' => ∃ a' c', e = .returned (.tuple #[.agg #[.slice a' (n + 1) c', .int .i64 t, .int .i64 y], .agg #[.int .i64 0, .int .i64 0, .int .i64 0], .string ByteArray.empty, .bool true]) ∧ OwnS w' w.heap.size (.slice a' (n + 1) c') (xs ++ [s]) ∧ Below w.heap.size w w' := by
  have hC0 := (((x3_new w (.slice ao n c) (.int .i64 t) (.int .i64 y) 45 (w.heap.size) (by simp)).later (balloc (w.alloc (.cells #[.slice ao n c, .int .i64 t, .int .i64 y] 45)) (.cells #[.int .i64 1, .string s] 39))).later (balloc ((w.alloc (.cells #[.slice ao n c, .int .i64 t, .int .i64 y] 45)).alloc (.cells #[.int .i64 1, .string s] 39)) (.cells #[.slice none 0 0, .int .i64 0, .int .i64 0] 45))).later (balloc (((w.alloc (.cells #[.slice ao n c, .int .i64 t, .int .i64 y] 45)).alloc (.cells #[.int .i64 1, .string s] 39)).alloc (.cells #[.slice none 0 0, .int .i64 0, .int .i64 0] 45)) (.cells #[.int .i64 0, .int .i64 0, .int .i64 0] 52))
  have hS0 := ((x2_new (w.alloc (.cells #[.slice ao n c, .int .i64 t, .int .i64 y] 45)) (.int .i64 1) (.string s) 39 (w.heap.size + 1) (by simp)).later (balloc ((w.alloc (.cells #[.slice ao n c, .int .i64 t, .int .i64 y] 45)).alloc (.cells #[.int .i64 1, .string s] 39)) (.cells #[.slice none 0 0, .int .i64 0, .int .i64 0] 45))).later (balloc (((w.alloc (.cells #[.slice ao n c, .int .i64 t, .int .i64 y] 45)).alloc (.cells #[.int .i64 1, .string s] 39)).alloc (.cells #[.slice none 0 0, .int .i64 0, .int .i64 0] 45)) (.cells #[.int .i64 0, .int .i64 0, .int .i64 0] 52))
  have hR0 := (x3_new ((w.alloc (.cells #[.slice ao n c, .int .i64 t, .int .i64 y] 45)).alloc (.cells #[.int .i64 1, .string s] 39)) (.slice none 0 0) (.int .i64 0) (.int .i64 0) 45 (w.heap.size + 2) (by simp)).later (balloc (((w.alloc (.cells #[.slice ao n c, .int .i64 t, .int .i64 y] 45)).alloc (.cells #[.int .i64 1, .string s] 39)).alloc (.cells #[.slice none 0 0, .int .i64 0, .int .i64 0] 45)) (.cells #[.int .i64 0, .int .i64 0, .int .i64 0] 52))
  have hE0 := x3_new (((w.alloc (.cells #[.slice ao n c, .int .i64 t, .int .i64 y] 45)).alloc (.cells #[.int .i64 1, .string s] 39)).alloc (.cells #[.slice none 0 0, .int .i64 0, .int .i64 0] 45)) (.int .i64 0) (.int .i64 0) (.int .i64 0) 52 (w.heap.size + 3) (by simp)
  have hB_W0 : Below w.heap.size w ((((w.alloc (.cells #[.slice ao n c, .int .i64 t, .int .i64 y] 45)).alloc (.cells #[.int .i64 1, .string s] 39)).alloc (.cells #[.slice none 0 0, .int .i64 0, .int .i64 0] 45)).alloc (.cells #[.int .i64 0, .int .i64 0, .int .i64 0] 52)) := (((balloc w (.cells #[.slice ao n c, .int .i64 t, .int .i64 y] 45)).alloc (by simp) (.cells #[.int .i64 1, .string s] 39)).alloc (by simp; omega) (.cells #[.slice none 0 0, .int .i64 0, .int .i64 0] 45)).alloc (by simp; omega) (.cells #[.int .i64 0, .int .i64 0, .int .i64 0] 52)
  have hS_W0 : (((((w.alloc (.cells #[.slice ao n c, .int .i64 t, .int .i64 y] 45)).alloc (.cells #[.int .i64 1, .string s] 39)).alloc (.cells #[.slice none 0 0, .int .i64 0, .int .i64 0] 45)).alloc (.cells #[.int .i64 0, .int .i64 0, .int .i64 0] 52))).heap.size = w.heap.size + 4 := by simp
  obtain ⟨W0, hW0⟩ : ∃ V, ((((w.alloc (.cells #[.slice ao n c, .int .i64 t, .int .i64 y] 45)).alloc (.cells #[.int .i64 1, .string s] 39)).alloc (.cells #[.slice none 0 0, .int .i64 0, .int .i64 0] 45)).alloc (.cells #[.int .i64 0, .int .i64 0, .int .i64 0] 52)) = V := ⟨_, rfl⟩
  rw [hW0] at hC0 hS0 hR0 hE0 hB_W0 hS_W0
  have HC0 : Hid (X3 W0 (w.heap.size) (.slice ao n c) (.int .i64 t) (.int .i64 y)) := hC0
  have HS0 : Hid (X2 W0 (w.heap.size + 1) (.int .i64 1) (.string s)) := hS0
  have HR0 : Hid (X3 W0 (w.heap.size + 2) (.slice none 0 0) (.int .i64 0) (.int .i64 0)) := hR0
  have HE0 : Hid (X3 W0 (w.heap.size + 3) (.int .i64 0) (.int .i64 0) (.int .i64 0)) := hE0
  have HB_W0 : Hid (Below w.heap.size w W0) := hB_W0
  have HS_W0 : Hid (W0.heap.size = w.heap.size + 4) := hS_W0
  clear hB_W0 hS_W0 hC0 hS0 hR0 hE0
  have hs15 : s.size ≤ 15 := by simpa [sayB] using hs
  have qt := l10Text_c s W0 (by omega)
  rw [hs] at qt
  have hz := HS_W0.out
  have hl5 : (n : Int) < 5 := by omega
  -- the rows as they may be laid
  have dr : ∀ X : World, Below X.heap.size X X.drew := fun X => (Below.refl X.heap.size X).drew
  have bE : Below W0.heap.size W0 (W0.alloc (.cells #[] 9)).drew := (balloc W0 (.cells #[] 9)).drew
  have bL : Below W0.heap.size W0 (W0.alloc (.cells #[.string s] 9)).drew := (balloc W0 (.cells #[.string s] 9)).drew
  have bF : Below W0.heap.size W0 ((W0.alloc (.cells #[] 9)).alloc (.cells #[.string s] 9)).drew := ((balloc W0 (.cells #[] 9)).alloc (by simp) (.cells #[.string s] 9)).drew
  have bG : Below W0.heap.size W0 ((W0.alloc (.cells #[.string s] 9)).alloc (.cells #[] 9)).drew := ((balloc W0 (.cells #[.string s] 9)).alloc (by simp) (.cells #[] 9)).drew
  have bE' : Below W0.heap.size W0 (W0.alloc (.cells #[] 9)) := (balloc W0 (.cells #[] 9))
  have bL' : Below W0.heap.size W0 (W0.alloc (.cells #[.string s] 9)) := (balloc W0 (.cells #[.string s] 9))
  have bF' : Below W0.heap.size W0 ((W0.alloc (.cells #[] 9)).alloc (.cells #[.string s] 9)) := ((balloc W0 (.cells #[] 9)).alloc (by simp) (.cells #[.string s] 9))
  have bG' : Below W0.heap.size W0 ((W0.alloc (.cells #[.string s] 9)).alloc (.cells #[] 9)) := ((balloc W0 (.cells #[.string s] 9)).alloc (by simp) (.cells #[] 9))
  have hqW := hq.later HB_W0.out
  obtain ⟨a1, c1, w1, r1A, o1A, b1A, g1A⟩ := two_appends (W0.alloc (.cells #[] 9)).drew W0.heap.size W0.heap.size ao n c xs s (by omega) (hqW.later bE) ((emptyS W0).later (dr _)) bE.size
  have bA2 := balloc w1 (.cells #[.string s] 9)
  have zA : W0.heap.size ≤ w1.heap.size := Nat.le_trans bE.size b1A.size
  obtain ⟨a2, c2, w2, r2A, o2A, b2A⟩ := one_append (w1.alloc (.cells #[.string s] 9)) W0.heap.size a1 n c1 w1.heap.size xs s (by omega) (o1A.later bA2) (litS w1 s) (Nat.le_trans zA bA2.size)
  obtain ⟨a3, c3, w3, r1B, o1B, b1B, g1B⟩ := two_appends ((W0.alloc (.cells #[] 9)).alloc (.cells #[.string s] 9)).drew W0.heap.size W0.heap.size ao n c xs s (by omega) (hqW.later bF) (((emptyS W0).later (balloc _ (.cells #[.string s] 9))).later (dr _)) bF.size
  have lB : RdS w3 (some ⟨W0.heap.size + 1, 0, none⟩) [s] := by
    have h := litS (W0.alloc (.cells #[] 9)) s
    rw [show (W0.alloc (.cells #[] 9)).heap.size = W0.heap.size + 1 by simp] at h
    have h2 := h.later (dr _)
    rcases h2 with h2 | ⟨b', o', he, hc⟩
    · cases h2
    · refine Or.inr ⟨b', o', he, fun j hj => ?_⟩
      have he2 := he
      simp only [Option.some.injEq, Addr.mk.injEq] at he2
      obtain ⟨rfl, rfl, _⟩ := he2
      rw [World.cell?_of_block (w := ((W0.alloc (.cells #[] 9)).alloc (.cells #[.string s] 9)).drew) (a := ⟨W0.heap.size + 1, 0 + j, none⟩) (g1B.block (W0.heap.size + 1) (by simp) (by simp))]
      exact hc j hj
  have zB : W0.heap.size ≤ w3.heap.size := Nat.le_trans bF.size b1B.size
  obtain ⟨a4, c4, w4, r2B, o2B, b2B⟩ := one_append w3 W0.heap.size a3 n c3 (W0.heap.size + 1) xs s (by omega) o1B lB zB
  have eC := (emptyS (W0.alloc (.cells #[.string s] 9))).later (dr _)
  rw [show (W0.alloc (.cells #[.string s] 9)).heap.size = W0.heap.size + 1 by simp] at eC
  obtain ⟨a5, c5, w5, r1C, o1C, b1C, g1C⟩ := two_appends ((W0.alloc (.cells #[.string s] 9)).alloc (.cells #[] 9)).drew (W0.heap.size + 1) (W0.heap.size + 1) ao n c xs s (by omega) (hqW.later bG) eC (by simp)
  have lC : RdS w5 (some ⟨W0.heap.size, 0, none⟩) [s] := by
    have h2 := ((litS W0 s).later (balloc _ (.cells #[] 9))).later (dr _)
    rcases h2 with h2 | ⟨b', o', he, hc⟩
    · cases h2
    · refine Or.inr ⟨b', o', he, fun j hj => ?_⟩
      have he2 := he
      simp only [Option.some.injEq, Addr.mk.injEq] at he2
      obtain ⟨rfl, rfl, _⟩ := he2
      rw [World.cell?_of_block (w := ((W0.alloc (.cells #[.string s] 9)).alloc (.cells #[] 9)).drew) (a := ⟨W0.heap.size, 0 + j, none⟩) (g1C.block W0.heap.size (by simp; omega) (by simp))]
      exact hc j hj
  have zC : W0.heap.size + 1 ≤ w5.heap.size := by have h := b1C.size; simp at h; omega
  obtain ⟨a6, c6, w6, r2C, o2C, b2C⟩ := one_append w5 (W0.heap.size + 1) a5 n c5 W0.heap.size xs s (by omega) o1C lC zC
  -- what each way leaves
  have bA1 : Below W0.heap.size W0 w1 := bE.trans b1A
  have bB1 : Below W0.heap.size W0 w3 := bF.trans b1B
  have bC1 : Below W0.heap.size W0 w5 := bG.trans (b1C.mono (Nat.le_succ _))
  have bA : Below W0.heap.size W0 w2 := bA1.trans ((bA2.mono zA).trans b2A)
  have bB : Below W0.heap.size W0 w4 := bB1.trans b2B
  have bC : Below W0.heap.size W0 w6 := bC1.trans (b2C.mono (Nat.le_succ _))
  have HOA : Hid (OwnS w2 W0.heap.size (.slice a2 (n + 1) c2) (xs ++ [s])) := o2A
  have HOB : Hid (OwnS w4 W0.heap.size (.slice a4 (n + 1) c4) (xs ++ [s])) := o2B
  have HOC : Hid (OwnS w6 W0.heap.size (.slice a6 (n + 1) c6) (xs ++ [s])) := o2C.mono (by omega)
  have HBA : Hid (Below w.heap.size w w2) := HB_W0.out.trans (bA.mono HB_W0.out.size)
  have HBB : Hid (Below w.heap.size w w4) := HB_W0.out.trans (bB.mono HB_W0.out.size)
  have HBC : Hid (Below w.heap.size w w6) := HB_W0.out.trans (bC.mono HB_W0.out.size)
  obtain ⟨⟨kcA0, kcA1, kcA2⟩, kcAf⟩ := id (HC0.out.later bA)
  have kcAf0 := kcAf 0
  clear kcAf
  obtain ⟨⟨ksA0, ksA1⟩, ksAf⟩ := id (HS0.out.later bA)
  clear ksAf
  obtain ⟨⟨krA0, krA1, krA2⟩, krAf⟩ := id (HR0.out.later bA)
  have krAf0 := krAf 0
  have krAf1 := krAf 1
  have krAf2 := krAf 2
  clear krAf
  obtain ⟨⟨keA0, keA1, keA2⟩, keAf⟩ := id (HE0.out.later bA)
  have keAf0 := keAf 0
  have keAf1 := keAf 1
  have keAf2 := keAf 2
  clear keAf
  obtain ⟨⟨kcB0, kcB1, kcB2⟩, kcBf⟩ := id (HC0.out.later bB)
  have kcBf0 := kcBf 0
  clear kcBf
  obtain ⟨⟨ksB0, ksB1⟩, ksBf⟩ := id (HS0.out.later bB)
  clear ksBf
  obtain ⟨⟨krB0, krB1, krB2⟩, krBf⟩ := id (HR0.out.later bB)
  have krBf0 := krBf 0
  have krBf1 := krBf 1
  have krBf2 := krBf 2
  clear krBf
  obtain ⟨⟨keB0, keB1, keB2⟩, keBf⟩ := id (HE0.out.later bB)
  have keBf0 := keBf 0
  have keBf1 := keBf 1
  have keBf2 := keBf 2
  clear keBf
  obtain ⟨⟨kcC0, kcC1, kcC2⟩, kcCf⟩ := id (HC0.out.later bC)
  have kcCf0 := kcCf 0
  clear kcCf
  obtain ⟨⟨ksC0, ksC1⟩, ksCf⟩ := id (HS0.out.later bC)
  clear ksCf
  obtain ⟨⟨krC0, krC1, krC2⟩, krCf⟩ := id (HR0.out.later bC)
  have krCf0 := krCf 0
  have krCf1 := krCf 1
  have krCf2 := krCf 2
  clear krCf
  obtain ⟨⟨keC0, keC1, keC2⟩, keCf⟩ := id (HE0.out.later bC)
  have keCf0 := keCf 0
  have keCf1 := keCf 1
  have keCf2 := keCf 2
  clear keCf
  obtain ⟨⟨lcA0, lcA1, lcA2⟩, lcAf⟩ := id (HC0.out.later bA1)
  clear lcAf
  obtain ⟨⟨lsA0, lsA1⟩, lsAf⟩ := id (HS0.out.later bA1)
  clear lsAf
  obtain ⟨⟨lcB0, lcB1, lcB2⟩, lcBf⟩ := id (HC0.out.later bB1)
  clear lcBf
  obtain ⟨⟨lsB0, lsB1⟩, lsBf⟩ := id (HS0.out.later bB1)
  clear lsBf
  obtain ⟨⟨lcC0, lcC1, lcC2⟩, lcCf⟩ := id (HC0.out.later bC1)
  clear lcCf
  obtain ⟨⟨lsC0, lsC1⟩, lsCf⟩ := id (HS0.out.later bC1)
  clear lsCf
  obtain ⟨⟨cz0, cz1, cz2⟩, czf⟩ := id (HC0.out)
  clear czf
  obtain ⟨⟨qz0, qz1⟩, qzf⟩ := id (HS0.out)
  clear qzf
  obtain ⟨⟨vcE0, vcE1, vcE2⟩, vcEf⟩ := id (HC0.out.later bE')
  clear vcEf
  obtain ⟨⟨vsE0, vsE1⟩, vsEf⟩ := id (HS0.out.later bE')
  clear vsEf
  obtain ⟨⟨vcL0, vcL1, vcL2⟩, vcLf⟩ := id (HC0.out.later bL')
  clear vcLf
  obtain ⟨⟨vsL0, vsL1⟩, vsLf⟩ := id (HS0.out.later bL')
  clear vsLf
  obtain ⟨⟨vcF0, vcF1, vcF2⟩, vcFf⟩ := id (HC0.out.later bF')
  clear vcFf
  obtain ⟨⟨vsF0, vsF1⟩, vsFf⟩ := id (HS0.out.later bF')
  clear vsFf
  obtain ⟨⟨vcG0, vcG1, vcG2⟩, vcGf⟩ := id (HC0.out.later bG')
  clear vcGf
  obtain ⟨⟨vsG0, vsG1⟩, vsGf⟩ := id (HS0.out.later bG')
  clear vsGf
  clear dr hqW bE bL bF bG bE' bL' bF' bG' o1A b1A g1A bA2 zA o2A b2A o1B b1B g1B lB zB o2B b2B eC o1C b1C g1C lC zC o2C b2C bA bB bC bA1 bB1 bC1 hz hq
  go_enter Try.func62, Try.ntmps62
  go_wp2_with fail
  refine qt.mono ?_
  clear qt
  rintro e w' ⟨rfl, hw⟩
  subst w'
  clear hW0
  go_wp2_with fail
  go_region_law (first
    | (refine step_append_run rfl (.tmp 24) (.tmp 26) 27 27 rfl (.slice (some ⟨W0.heap.size, 0, none⟩) 0 0) (.slice ao n c) (by simp [Act.eval, Act.put]) (by simp [Act.eval, Act.put]) (r1A _) ?_)
    | (refine step_append_run rfl (.tmp 24) (.tmp 26) 27 27 rfl (.slice (some ⟨W0.heap.size, 0, none⟩) 0 0) (.slice ao n c) (by simp [Act.eval, Act.put]) (by simp [Act.eval, Act.put]) (r1B _) ?_)
    | (refine step_append_run rfl (.tmp 24) (.tmp 26) 27 27 rfl (.slice (some ⟨W0.heap.size + 1, 0, none⟩) 0 0) (.slice ao n c) (by simp [Act.eval, Act.put]) (by simp [Act.eval, Act.put]) (r1C _) ?_)
    | (refine step_append_run rfl (.tmp 27) (.tmp 30) 27 27 rfl (.slice a1 n c1) (.slice (some ⟨w1.heap.size, 0, none⟩) 1 1) (by simp [Act.eval, Act.put]) (by simp [Act.eval, Act.put]) (r2A _) ?_)
    | (refine step_append_run rfl (.tmp 27) (.tmp 30) 27 27 rfl (.slice a3 n c3) (.slice (some ⟨W0.heap.size + 1, 0, none⟩) 1 1) (by simp [Act.eval, Act.put]) (by simp [Act.eval, Act.put]) (r2B _) ?_)
    | (refine step_append_run rfl (.tmp 27) (.tmp 30) 27 27 rfl (.slice a5 n c5) (.slice (some ⟨W0.heap.size, 0, none⟩) 1 1) (by simp [Act.eval, Act.put]) (by simp [Act.eval, Act.put]) (r2C _) ?_))
  all_goals (
    go_wp2
    first
    | (refine bodyPost_ret (v := .tuple #[.agg #[.slice a2 (n + 1) c2, .int .i64 t, .int .i64 y], .agg #[.int .i64 0, .int .i64 0, .int .i64 0], .string ByteArray.empty, .bool true]) (by simp [results, Try.results62, go_sem, kcA0, kcA1, kcA2, krA0, krA1, krA2, keA0, keA1, keA2]; try rfl) rfl ⟨a2, c2, rfl, ?_, ?_⟩
       · have hL := HS_W0.out
         refine OwnS.mono (base := W0.heap.size) ?_ (by omega)
         repeat (refine OwnS.set ?_ (by omega))
         exact HOA.out
       · repeat (refine Below.setCell ?_ (by dsimp only; omega) _)
         exact HBA.out)
    | (refine bodyPost_ret (v := .tuple #[.agg #[.slice a4 (n + 1) c4, .int .i64 t, .int .i64 y], .agg #[.int .i64 0, .int .i64 0, .int .i64 0], .string ByteArray.empty, .bool true]) (by simp [results, Try.results62, go_sem, kcB0, kcB1, kcB2, krB0, krB1, krB2, keB0, keB1, keB2]; try rfl) rfl ⟨a4, c4, rfl, ?_, ?_⟩
       · have hL := HS_W0.out
         refine OwnS.mono (base := W0.heap.size) ?_ (by omega)
         repeat (refine OwnS.set ?_ (by omega))
         exact HOB.out
       · repeat (refine Below.setCell ?_ (by dsimp only; omega) _)
         exact HBB.out)
    | (refine bodyPost_ret (v := .tuple #[.agg #[.slice a6 (n + 1) c6, .int .i64 t, .int .i64 y], .agg #[.int .i64 0, .int .i64 0, .int .i64 0], .string ByteArray.empty, .bool true]) (by simp [results, Try.results62, go_sem, kcC0, kcC1, kcC2, krC0, krC1, krC2, keC0, keC1, keC2]; try rfl) rfl ⟨a6, c6, rfl, ?_, ?_⟩
       · have hL := HS_W0.out
         refine OwnS.mono (base := W0.heap.size) ?_ (by omega)
         repeat (refine OwnS.set ?_ (by omega))
         exact HOC.out
       · repeat (refine Below.setCell ?_ (by dsimp only; omega) _)
         exact HBC.out))

end Go.Proofs.Yteopaocomfepfaa
