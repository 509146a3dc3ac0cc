/- FnPools: what both sides tell of a drawn mix, in one form. -/
import Derived.Test.YtnppmgnfignbcaaDZ8
import Derived.Test.YtnppmgnfignbcaaPU8
import Derived.Test.YtnppmgnfignbcaaV8E
import Derived.Test.YtnppmgnfignbcaaST8
import Derived.Test.YtnppmgnfignbcaaF8Q
import Derived.Test.YtnppmgnfignbcaaU8
namespace Go.Proofs.Ytnppmgnfignbcaa
set_option linter.unusedVariables false
set_option maxRecDepth 1000000
set_option linter.unusedSimpArgs false
open Go.RowKit

/-- A mix that reads as z. -/
structure MB (w : World) (p : Option Addr) (k : Nat) (s : Option Addr) (d : Nat) (z : MixV) : Prop where
  rd : RdS w p z.pool
  sd : Rd w s z.seen
  pn : p = none → z.pool.length = 0 ∧ k = 0
  sn : s = none → z.seen.length = 0 ∧ d = 0
theorem MB.later {w w' : World} {p s : Option Addr} {k d : Nat} {z : MixV} (h : MB w p k s d z) (hb : Below w.heap.size w w') : MB w' p k s d z := ⟨h.rd.later hb, h.sd.later hb, h.pn, h.sn⟩
theorem MB.of {w : World} {base : Nat} {p s : Option Addr} {k d : Nat} {z : MixV} (h1 : OwnS w base (.slice p z.pool.length k) z.pool) (h2 : Own w base (.slice s z.seen.length d) z.seen) : MB w p k s d z := by
  refine ⟨h1.rd'.2, h2.rd'.2, fun e => ?_, fun e => ?_⟩
  · rcases h1.form with ⟨h, _⟩ | ⟨g, cap, h, _⟩
    · simp only [Value.slice.injEq] at h
      exact ⟨h.2.1, h.2.2⟩
    · rw [e] at h; simp at h
  · rcases h2.form with ⟨h, _⟩ | ⟨g, cap, h, _⟩
    · simp only [Value.slice.injEq] at h
      exact ⟨h.2.1, h.2.2⟩
    · rw [e] at h; simp at h

structure SmallV (z : MixV) : Prop where
  pl : z.pool.length ≤ 1000
  sl : z.seen.length ≤ 1000
  ts : ∀ s ∈ z.pool, s.size ≤ 9223372036854775807
theorem SmallV.zero : SmallV MixV.zero := ⟨by decide, by decide, fun s h => by cases h⟩
theorem SmallV.good {z : MixV} (h : GoodV z) : SmallV z := ⟨by have := h.many; omega, by have := h.seens; omega, fun s hs => by have := h.short s hs; omega⟩
theorem MxD.smallV {z : MixV} (h : MxD z) : SmallV z := ⟨by have := h.small.1; omega, by have := h.small.2.1; omega, fun s hs => by have := h.small.2.2.1 s hs; omega⟩

theorem put_eq {z : MixV} (h : MxD z) (t : ByteArray) : putI z t = putS z t := by
  by_cases h1 : shortB t = true
  · by_cases h2 : goodB z = true
    · have hr := (h.drawn ((goodB_iff z).1 h2)).room
      have e : putS z t = ((putM z t).1, (putM z t).2, true) := by unfold putS; rw [if_pos ⟨h2, h1⟩]
      have n1 : ¬ (z.pool.length = 12 ∨ z.seen.length = 100) := by omega
      rw [e]
      by_cases h3 : tagN t ∈ z.seen
      · have e2 : putM z t = (z, 1) := by unfold putM; rw [if_pos h3]
        rw [e2]
        unfold putI
        rw [if_pos h1, if_pos h2, if_pos h3]
      · have e2 : (putM z t).2 = 0 := by unfold putM; rw [if_neg h3, if_neg n1]
        rw [e2]
        unfold putI
        rw [if_pos h1, if_pos h2, if_neg h3, if_neg n1]
    · unfold putI putS
      rw [if_pos h1, if_neg h2, if_neg (fun e => h2 e.1)]
  · unfold putI putS
    rw [if_neg h1, if_neg (fun e => h1 e.2)]

/-- What is told of a put. -/
theorem put_told {z zp : MixV} {t : ByteArray} {code : Int} {fb : Bool} (h : MxD z) (ht : IsLet t) (hP : putS z t = (zp, code, fb)) :
    SmallV zp ∧ ((fb = false ∧ code = 0) ∨ (fb = true ∧ MxD zp ∧ goodB zp = true ∧ putS zp t = (zp, 1, true) ∧ ((code = 1 ∧ zp = z) ∨ (code = 0 ∧ zp.pool.length = z.pool.length + 1)))) := by
  unfold putS at hP
  by_cases hc : goodB z = true ∧ shortB t = true
  · rw [if_pos hc] at hP
    simp only [Prod.mk.injEq] at hP
    obtain ⟨h1, h2, rfl⟩ := hP
    have hd := h.drawn ((goodB_iff z).1 hc.1)
    have hdp : Drawn zp := by rw [← h1]; exact hd.put (ht.short hc.2)
    have hcd := hd.code t
    have hgp : goodB zp = true := (goodB_iff zp).2 hdp.good
    refine ⟨SmallV.good hdp.good, Or.inr ⟨rfl, ⟨zp, hdp, Or.inl rfl⟩, hgp, ?_, ?_⟩⟩
    · have ha := put_again (z := z) (s := t) (by rcases hcd with e | e <;> (rw [e]; decide))
      unfold putS
      rw [if_pos ⟨hgp, hc.2⟩, ← h1, ha]
    · have hr := hd.room
      unfold putM at h1 h2
      by_cases h3 : tagN t ∈ z.seen
      · rw [if_pos h3] at h1 h2
        exact Or.inl ⟨h2.symm, h1.symm⟩
      · rw [if_neg h3, if_neg (by omega)] at h1 h2
        refine Or.inr ⟨h2.symm, ?_⟩
        rw [← h1]
        exact insL_length _ _
  · rw [if_neg hc] at hP
    simp only [Prod.mk.injEq] at hP
    obtain ⟨rfl, rfl, rfl⟩ := hP
    exact ⟨SmallV.zero, Or.inl ⟨rfl, rfl⟩⟩

/-- What is told of a tick. -/
theorem tick_told {z zy : MixV} {l : List ByteArray} {fb : Bool} (h : MxD z) (hT : tickF z = (zy, l, fb)) :
    SmallV zy ∧ l.length ≤ 1000 ∧ (fb = false ∨ (fb = true ∧ goodB zy = true ∧ ((l = [] ∧ zy.pool = z.pool) ∨ (l ≠ [] ∧ zy.pool = [] ∧ l = z.pool)))) := by
  unfold tickF at hT
  by_cases hc : goodB z = true
  · rw [if_pos hc] at hT
    simp only [Prod.mk.injEq] at hT
    obtain ⟨h1, h2, rfl⟩ := hT
    have hd := h.drawn ((goodB_iff z).1 hc)
    have hdy : Drawn zy := by rw [← h1]; exact hd.tick
    have hr := hd.room
    refine ⟨SmallV.good hdy.good, ?_, Or.inr ⟨rfl, (goodB_iff zy).2 hdy.good, ?_⟩⟩
    · rw [← h2]
      unfold tickM
      split
      · simp
      · split
        · simp
        · show z.pool.length ≤ 1000; omega
    · unfold tickM at h1 h2
      by_cases h3 : z.pool = []
      · rw [if_pos h3] at h1 h2
        exact Or.inl ⟨h2.symm, by rw [← h1]⟩
      · rw [if_neg h3] at h1 h2
        split at h1
        · rename_i hq
          rw [if_pos hq] at h2
          exact Or.inl ⟨h2.symm, by rw [← h1]⟩
        · rename_i hq
          rw [if_neg hq] at h2
          exact Or.inr ⟨by rw [← h2]; exact h3, by rw [← h1], h2.symm⟩
  · rw [if_neg hc] at hT
    simp only [Prod.mk.injEq] at hT
    obtain ⟨rfl, rfl, rfl⟩ := hT
    exact ⟨SmallV.zero, by simp, Or.inl rfl⟩

theorem implPutU {w : World} {p s : Option Addr} {k d : Nat} {z zp : MixV} {t : ByteArray} {code : Int} {fb : Bool} (hm : MB w p k s d z) (hd : MxD z) (ht : t.size ≤ 9223372036854775807) (hP : putS z t = (zp, code, fb)) :
    Calls Try.prog 25 #[.agg #[.slice p z.pool.length k, .int .i64 z.least, .int .i64 z.wait, .int .i64 z.old, .slice s z.seen.length d], .string t] w fun e w' => ∃ p' k' s' d', e = .returned (.tuple #[.agg #[.slice p' zp.pool.length k', .int .i64 zp.least, .int .i64 zp.wait, .int .i64 zp.old, .slice s' zp.seen.length d'], .int .i64 code, .bool fb]) ∧ MB w' p' k' s' d' zp ∧ Below w.heap.size w w' := by
  have hs := hd.smallV
  refine (implPut_c p s z.pool.length k z.seen.length d z.least z.wait z.old t z.pool z.seen w rfl rfl (by have := hs.pl; omega) (by have := hs.sl; omega) hm.rd hm.sd hs.ts ht hm.sn).mono ?_
  rw [show (⟨z.pool, z.least, z.wait, z.old, z.seen⟩ : MixV) = z from rfl, put_eq hd, hP]
  rintro e w' ⟨v, rfl, ⟨p', k', s', d', rfl, h1, h2⟩, hb⟩
  exact ⟨p', k', s', d', rfl, MB.of h1 h2, hb⟩

theorem specPutU {w : World} {p s : Option Addr} {k d : Nat} {z zp : MixV} {t : ByteArray} {code : Int} {fb : Bool} (hm : MB w p k s d z) (hd : MxD z) (ht : t.size ≤ 9223372036854775807) (hP : putS z t = (zp, code, fb)) :
    Calls Try.prog 26 #[.agg #[.slice p z.pool.length k, .int .i64 z.least, .int .i64 z.wait, .int .i64 z.old, .slice s z.seen.length d], .string t] w fun e w' => ∃ p' k' s' d', e = .returned (.tuple #[.agg #[.slice p' zp.pool.length k', .int .i64 zp.least, .int .i64 zp.wait, .int .i64 zp.old, .slice s' zp.seen.length d'], .int .i64 code, .bool fb]) ∧ MB w' p' k' s' d' zp ∧ Below w.heap.size w w' := by
  have hs := hd.smallV
  have fin : ∀ e w', PutOut w w' e zp code fb ∧ Below w.heap.size w w' → ∃ p' k' s' d', e = .returned (.tuple #[.agg #[.slice p' zp.pool.length k', .int .i64 zp.least, .int .i64 zp.wait, .int .i64 zp.old, .slice s' zp.seen.length d'], .int .i64 code, .bool fb]) ∧ MB w' p' k' s' d' zp ∧ Below w.heap.size w w' := by
    rintro e w' ⟨⟨p', k', s', d', rfl, h1, h2⟩, hb⟩
    exact ⟨p', k', s', d', rfl, MB.of h1 h2, hb⟩
  unfold putS at hP
  by_cases hc : goodB z = true ∧ shortB t = true
  · rw [if_pos hc] at hP
    simp only [Prod.mk.injEq] at hP
    obtain ⟨h1, h2, h3⟩ := hP
    have q := specPut_good p s z.pool.length k z.seen.length d z.least z.wait z.old z.pool z.seen t w rfl rfl (by have := hs.pl; omega) (by have := hs.sl; omega) hm.rd hm.sd hs.ts ht hm.pn hm.sn hc.1 hc.2
    rw [show (⟨z.pool, z.least, z.wait, z.old, z.seen⟩ : MixV) = z from rfl, h1, h2, h3] at q
    exact q.mono fin
  · rw [if_neg hc] at hP
    simp only [Prod.mk.injEq] at hP
    obtain ⟨h1, h2, h3⟩ := hP
    have q := specPut_bad p s z.pool.length k z.seen.length d z.least z.wait z.old z.pool z.seen t w rfl rfl (by have := hs.pl; omega) (by have := hs.sl; omega) hm.rd hm.sd hs.ts ht hc
    rw [h1, h2, h3] at q
    exact q.mono fin

theorem implGoodU {w : World} {p s : Option Addr} {k d : Nat} {z : MixV} (hm : MB w p k s d z) (hs : SmallV z) :
    Calls Try.prog 28 #[.agg #[.slice p z.pool.length k, .int .i64 z.least, .int .i64 z.wait, .int .i64 z.old, .slice s z.seen.length d]] w fun e w' => e = .returned (.bool (goodB z)) ∧ Below w.heap.size w w' :=
  implGood_c p s z.pool.length k z.seen.length d z.least z.wait z.old z.pool z.seen w rfl rfl (by have := hs.pl; omega) (by have := hs.sl; omega) hm.rd hm.sd hs.ts
theorem specGoodU {w : World} {p s : Option Addr} {k d : Nat} {z : MixV} (hm : MB w p k s d z) (hs : SmallV z) :
    Calls Try.prog 29 #[.agg #[.slice p z.pool.length k, .int .i64 z.least, .int .i64 z.wait, .int .i64 z.old, .slice s z.seen.length d]] w fun e w' => e = .returned (.bool (goodB z)) ∧ Below w.heap.size w w' :=
  specGood_c p s z.pool.length k z.seen.length d z.least z.wait z.old z.pool z.seen w rfl rfl (by have := hs.pl; omega) (by have := hs.sl; omega) hm.rd hm.sd hs.ts
theorem sameMixU {w : World} {p s p' s' : Option Addr} {k d k' d' : Nat} {z : MixV} (hm : MB w p k s d z) (hm' : MB w p' k' s' d' z) (hs : SmallV z) :
    Calls Try.prog 27 #[.agg #[.slice p z.pool.length k, .int .i64 z.least, .int .i64 z.wait, .int .i64 z.old, .slice s z.seen.length d], .agg #[.slice p' z.pool.length k', .int .i64 z.least, .int .i64 z.wait, .int .i64 z.old, .slice s' z.seen.length d']] w fun e w' => e = .returned (.bool true) ∧ Below w.heap.size w w' :=
  sameMix_c p s p' s' z.pool.length k z.seen.length d k' d' z.least z.wait z.old z.pool z.seen w rfl rfl hs.pl hs.sl hm.rd hm.sd hm'.rd hm'.sd

theorem implTickU {w : World} {p s : Option Addr} {k d : Nat} {z zy : MixV} {l : List ByteArray} {fb : Bool} (hm : MB w p k s d z) (hs : SmallV z) (hT : tickF z = (zy, l, fb)) :
    Calls Try.prog 31 #[.agg #[.slice p z.pool.length k, .int .i64 z.least, .int .i64 z.wait, .int .i64 z.old, .slice s z.seen.length d]] w fun e w' => ∃ p' k' s' d' a' j', e = .returned (.tuple #[.agg #[.slice p' zy.pool.length k', .int .i64 zy.least, .int .i64 zy.wait, .int .i64 zy.old, .slice s' zy.seen.length d'], .slice a' l.length j', .bool fb]) ∧ MB w' p' k' s' d' zy ∧ RdS w' a' l ∧ Below w.heap.size w w' := by
  refine (implTick_c p s z.pool.length k z.seen.length d z.least z.wait z.old z.pool z.seen w rfl rfl (by have := hs.pl; omega) (by have := hs.sl; omega) hm.rd hm.sd hs.ts hm.sn).mono ?_
  rw [show (⟨z.pool, z.least, z.wait, z.old, z.seen⟩ : MixV) = z from rfl, hT]
  rintro e w' ⟨⟨p', k', s', d', a', j', rfl, h1, h2, h3, _⟩, hb⟩
  exact ⟨p', k', s', d', a', j', rfl, MB.of h1 h2, h3.rd'.2, hb⟩
theorem specTickU {w : World} {p s : Option Addr} {k d : Nat} {z zy : MixV} {l : List ByteArray} {fb : Bool} (hm : MB w p k s d z) (hs : SmallV z) (hT : tickF z = (zy, l, fb)) :
    Calls Try.prog 32 #[.agg #[.slice p z.pool.length k, .int .i64 z.least, .int .i64 z.wait, .int .i64 z.old, .slice s z.seen.length d]] w fun e w' => ∃ p' k' s' d' a' j', e = .returned (.tuple #[.agg #[.slice p' zy.pool.length k', .int .i64 zy.least, .int .i64 zy.wait, .int .i64 zy.old, .slice s' zy.seen.length d'], .slice a' l.length j', .bool fb]) ∧ MB w' p' k' s' d' zy ∧ RdS w' a' l ∧ Below w.heap.size w w' := by
  refine (specTick_c p s z.pool.length k z.seen.length d z.least z.wait z.old z.pool z.seen w rfl rfl (by have := hs.pl; omega) (by have := hs.sl; omega) hm.rd hm.sd hs.ts hm.pn hm.sn).mono ?_
  rw [show (⟨z.pool, z.least, z.wait, z.old, z.seen⟩ : MixV) = z from rfl, hT]
  rintro e w' ⟨⟨p', k', s', d', a', j', rfl, h1, h2, h3, _⟩, hb⟩
  exact ⟨p', k', s', d', a', j', rfl, MB.of h1 h2, h3.rd'.2, hb⟩

theorem goodTrue {f : Nat} {args : Array Value} {w : World} {b : Bool} (h : Calls Try.prog f args w fun e w' => e = .returned (.bool b) ∧ Below w.heap.size w w') (hb : b = true) : Calls Try.prog f args w fun e w' => e = .returned (.bool true) ∧ Below w.heap.size w w' := by
  rw [hb] at h; exact h
theorem sameMixE {w : World} {p s p' s' : Option Addr} {k d k' d' : Nat} {z y : MixV} (hm : MB w p k s d z) (hm' : MB w p' k' s' d' y) (hs : SmallV z) (e : z = y) :
    Calls Try.prog 27 #[.agg #[.slice p z.pool.length k, .int .i64 z.least, .int .i64 z.wait, .int .i64 z.old, .slice s z.seen.length d], .agg #[.slice p' y.pool.length k', .int .i64 y.least, .int .i64 y.wait, .int .i64 y.old, .slice s' y.seen.length d']] w fun e w' => e = .returned (.bool true) ∧ Below w.heap.size w w' := by
  subst e; exact sameMixU hm hm' hs
theorem sameTextsU {w : World} {a a' : Option Addr} {j j' : Nat} {l : List ByteArray} (h1 : RdS w a l) (h2 : RdS w a' l) (hl : l.length ≤ 1000) :
    Calls Try.prog 16 #[.slice a l.length j, .slice a' l.length j'] w fun e w' => e = .returned (.bool true) ∧ Below w.heap.size w w' := by
  have q := sameTexts_c a a' l.length l.length j j' l l w rfl rfl (by omega) (by omega) h1 h2
  rw [decide_eq_true rfl] at q; exact q
theorem sameTextsE {w : World} {a a' : Option Addr} {j j' : Nat} {l k : List ByteArray} (h1 : RdS w a l) (h2 : RdS w a' k) (e : l = k) (hl : l.length ≤ 1000) :
    Calls Try.prog 16 #[.slice a l.length j, .slice a' k.length j'] w fun e w' => e = .returned (.bool true) ∧ Below w.heap.size w w' := by
  subst e; exact sameTextsU h1 h2 hl
theorem codeOk9 {w w' : World} {ao : Option Addr} {n : Nat} (h : CodeOk w w.heap.size ao n) (hb : Below w.heap.size w w') : CodeOk w' w'.heap.size ao n := by
  rcases h with h | ⟨b, off, rfl, hne, f, hf⟩
  · exact Or.inl h
  · by_cases h0 : n = 0
    · exact Or.inl h0
    · have hlt : b < w.heap.size := World.block_lt_of_cell? w _ (hf 0 (by omega)).1
      refine Or.inr ⟨b, off, rfl, by have := hb.size; omega, f, fun j hj => ⟨?_, (hf j hj).2⟩⟩
      rw [hb.cell (p := ⟨b, off + j, none⟩) hlt]; exact (hf j hj).1
def fb_tick (z zy : MixV) (l : List ByteArray) (fb : Bool) : Prop := SmallV zy ∧ l.length ≤ 1000 ∧ (fb = false ∨ (fb = true ∧ goodB zy = true ∧ ((l = [] ∧ zy.pool = z.pool) ∨ (l ≠ [] ∧ zy.pool = [] ∧ l = z.pool))))

theorem implTickQ {w : World} {p s : Option Addr} {k d q qy : Nat} {z zy : MixV} {l : List ByteArray} {fb : Bool} (hm : MB w p k s d z) (hs : SmallV z) (hT : tickF z = (zy, l, fb)) (hq : l.length = q) (hy : zy.pool.length = qy) :
    Calls Try.prog 31 #[.agg #[.slice p z.pool.length k, .int .i64 z.least, .int .i64 z.wait, .int .i64 z.old, .slice s z.seen.length d]] w fun e w' => ∃ p' k' s' d' a' j', e = .returned (.tuple #[.agg #[.slice p' qy k', .int .i64 zy.least, .int .i64 zy.wait, .int .i64 zy.old, .slice s' zy.seen.length d'], .slice a' q j', .bool fb]) ∧ MB w' p' k' s' d' zy ∧ RdS w' a' l ∧ Below w.heap.size w w' := by
  subst hq; subst hy; exact implTickU hm hs hT
theorem specTickQ {w : World} {p s : Option Addr} {k d q qy : Nat} {z zy : MixV} {l : List ByteArray} {fb : Bool} (hm : MB w p k s d z) (hs : SmallV z) (hT : tickF z = (zy, l, fb)) (hq : l.length = q) (hy : zy.pool.length = qy) :
    Calls Try.prog 32 #[.agg #[.slice p z.pool.length k, .int .i64 z.least, .int .i64 z.wait, .int .i64 z.old, .slice s z.seen.length d]] w fun e w' => ∃ p' k' s' d' a' j', e = .returned (.tuple #[.agg #[.slice p' qy k', .int .i64 zy.least, .int .i64 zy.wait, .int .i64 zy.old, .slice s' zy.seen.length d'], .slice a' q j', .bool fb]) ∧ MB w' p' k' s' d' zy ∧ RdS w' a' l ∧ Below w.heap.size w w' := by
  subst hq; subst hy; exact specTickU hm hs hT
theorem implGoodQ {w : World} {p s : Option Addr} {k d q : Nat} {z : MixV} (hm : MB w p k s d z) (hs : SmallV z) (hq : z.pool.length = q) (hg : goodB z = true) :
    Calls Try.prog 28 #[.agg #[.slice p q k, .int .i64 z.least, .int .i64 z.wait, .int .i64 z.old, .slice s z.seen.length d]] w fun e w' => e = .returned (.bool true) ∧ Below w.heap.size w w' := by
  subst hq; exact goodTrue (implGoodU hm hs) hg
theorem sameMixQ {w : World} {p s p' s' : Option Addr} {k d k' d' q : Nat} {z : MixV} (hm : MB w p k s d z) (hm' : MB w p' k' s' d' z) (hs : SmallV z) (hq : z.pool.length = q) :
    Calls Try.prog 27 #[.agg #[.slice p q k, .int .i64 z.least, .int .i64 z.wait, .int .i64 z.old, .slice s z.seen.length d], .agg #[.slice p' q k', .int .i64 z.least, .int .i64 z.wait, .int .i64 z.old, .slice s' z.seen.length d']] w fun e w' => e = .returned (.bool true) ∧ Below w.heap.size w w' := by
  subst hq; exact sameMixU hm hm' hs
theorem sameTextsQ {w : World} {a a' : Option Addr} {j j' q q' : Nat} {l k : List ByteArray} (h1 : RdS w a l) (h2 : RdS w a' k) (e : l = k) (hq : l.length = q) (hq' : k.length = q') (hl : q ≤ 1000) :
    Calls Try.prog 16 #[.slice a q j, .slice a' q' j'] w fun e w' => e = .returned (.bool true) ∧ Below w.heap.size w w' := by
  subst e; subst hq; subst hq'; exact sameTextsU h1 h2 hl

end Go.Proofs.Ytnppmgnfignbcaa
