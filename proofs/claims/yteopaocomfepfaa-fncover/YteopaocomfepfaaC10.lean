/- Chapter 10: a step whole: StepClient of the program; l10Step of the specification. -/
import Derived.Test.YteopaocomfepfaaIS10
import Derived.Test.YteopaocomfepfaaIT10
import Derived.Test.YteopaocomfepfaaLT10
import Derived.Test.YteopaocomfepfaaLN10
import Derived.Test.YteopaocomfepfaaLK10
import Derived.Test.YteopaocomfepfaaLM10
namespace Go.Proofs.Yteopaocomfepfaa
set_option linter.unusedVariables false
set_option maxRecDepth 1000000
set_option linter.unusedSimpArgs false
open Go.RowKit

/-- What the specification's own step comes to: a client that is not stepped stays. -/
def lstepV (q : List ByteArray) (t y k : Int) (s : ByteArray) : StV :=
  if sayOk q k s = true then sayV q t y s else if tickOk t k s = true then tickV q t y else ⟨q, t, y, 0, 0, 0, ByteArray.empty, false⟩
theorem lstep_say {q : List ByteArray} {t y k : Int} {s : ByteArray} (h : sayOk q k s = true) : lstepV q t y k s = sayV q t y s := by unfold lstepV; rw [if_pos h]
theorem lstep_tick {q : List ByteArray} {t y k : Int} {s : ByteArray} (h : ¬ sayOk q k s = true) (h2 : tickOk t k s = true) : lstepV q t y k s = tickV q t y := by unfold lstepV; rw [if_neg h, if_pos h2]
theorem lstep_no {q : List ByteArray} {t y k : Int} {s : ByteArray} (h : ¬ sayOk q k s = true) (h2 : ¬ tickOk t k s = true) : lstepV q t y k s = ⟨q, t, y, 0, 0, 0, ByteArray.empty, false⟩ := by unfold lstepV; rw [if_neg h, if_neg h2]
theorem lstep_ok {q : List ByteArray} {t y k : Int} {s : ByteArray} : (lstepV q t y k s).ok = (stepV q t y k s).ok ∧ ((stepV q t y k s).ok = true → lstepV q t y k s = stepV q t y k s) := by
  by_cases h : sayOk q k s = true
  · rw [lstep_say h, stepV_say h]; exact ⟨rfl, fun _ => rfl⟩
  · by_cases h2 : tickOk t k s = true
    · rw [lstep_tick h h2, stepV_tick h h2]; exact ⟨rfl, fun _ => rfl⟩
    · rw [lstep_no h h2, stepV_no h h2]; exact ⟨rfl, fun e => by cases e⟩
theorem lstep_rest {q : List ByteArray} {t y k : Int} {s : ByteArray} (h : (stepV q t y k s).ok = false) : lstepV q t y k s = ⟨q, t, y, 0, 0, 0, ByteArray.empty, false⟩ := by
  by_cases h1 : sayOk q k s = true
  · rw [stepV_say h1] at h; cases h
  · by_cases h2 : tickOk t k s = true
    · rw [stepV_tick h1 h2] at h; cases h
    · exact lstep_no h1 h2
theorem tick_k {t k : Int} {s : ByteArray} (h : tickOk t k s = true) : k = 2 ∧ s = ByteArray.empty ∧ t < 1000 := by
  obtain ⟨⟨h1, h2⟩, h3⟩ := tickOk_iff.1 h; exact ⟨h1, h2, h3⟩
theorem say_not_tick {q : List ByteArray} {t k : Int} {s : ByteArray} (h : tickOk t k s = true) : ¬ sayOk q k s = true := fun e => by
  have h1 := (tick_k h).1; have h2 := (sayOk_iff.1 e).1; omega

theorem specL_c (ao : Option Addr) (n c : Nat) (t y k : Int) (s : ByteArray) (xs : List ByteArray) (w : World) (hg : goodC xs t y = true) (hq : QOk w ao n c xs) (hs : s.size ≤ 9223372036854775807) (r : StV) (hr : lstepV xs t y k s = r) (m : Nat) (hm : r.q.length = m) :
    Calls Try.prog 62 #[.agg #[.slice ao n c, .int .i64 t, .int .i64 y], .agg #[.int .i64 k, .string s]] w fun e w' => ∃ a' c', e = .returned (.tuple #[.agg #[.slice a' m c', .int .i64 r.t, .int .i64 r.y], .agg #[.int .i64 r.e0, .int .i64 r.e1, .int .i64 r.e2], .string r.s, .bool r.ok]) ∧ QOk w' a' m c' r.q ∧ Below w.heap.size w w' := by
  obtain ⟨hg1, hg2, hg3⟩ := goodC_iff.1 hg
  have h5 : n ≤ 5 := by rw [← hq.len]; exact (queueB_iff.1 hg1).1
  by_cases hsay : sayOk xs k s = true
  · obtain ⟨rfl, h15, hl⟩ := sayOk_iff.1 hsay
    rw [lstep_say hsay] at hr
    subst hr
    have hm' : m = n + 1 := by rw [← hm, ← hq.len]; simp [sayV]
    subst hm'
    refine (l10Step_say ao n c t y s xs w (by rw [← hq.len]; exact hl) hq (by simpa [sayB] using h15)).mono ?_
    rintro e w' ⟨a', c', rfl, ho, hb⟩
    exact ⟨a', c', rfl, ho.ok, hb⟩
  · by_cases htk : tickOk t k s = true
    · obtain ⟨rfl, rfl, hlt⟩ := tick_k htk
      rw [lstep_tick hsay htk] at hr
      subst hr
      cases xs with
      | nil =>
        have h0 : n = 0 := by rw [← hq.len]; rfl
        subst h0
        have hm' : m = 0 := by rw [← hm]; rfl
        subst hm'
        refine (l10Step_tick0 ao c t y w ⟨hg2.1, hlt⟩ hg3).mono ?_
        rintro e w' ⟨rfl, hb⟩
        exact ⟨ao, c, rfl, ⟨rfl, Nat.zero_le _, hq.nil, Or.inl rfl⟩, hb⟩
      | cons x rest =>
        obtain ⟨b, o, rfl, _⟩ := hq.rd.get (k := 0) (by simp)
        obtain ⟨m', rfl⟩ : ∃ m', n = m' + 1 := ⟨rest.length, by rw [← hq.len]; rfl⟩
        have hm' : m = m' := by rw [← hm]; have := hq.len; simp [tickV] at this ⊢; exact this
        subst hm'
        refine (l10Step_tick1 b o m c t y x rest w (by omega) hq ⟨hg2.1, hlt⟩ hg3).mono ?_
        rintro e w' ⟨a', c', rfl, ho, hb⟩
        exact ⟨a', c', rfl, ho.ok, hb⟩
    · rw [lstep_no hsay htk] at hr
      subst hr
      have hm' : m = n := by rw [← hm, ← hq.len]
      subst hm'
      have hend : ∀ e w', e = Ending.returned (.tuple #[.agg #[.slice ao m c, .int .i64 t, .int .i64 y], .agg #[.int .i64 0, .int .i64 0, .int .i64 0], .string ByteArray.empty, .bool false]) ∧ Below w.heap.size w w' → ∃ a' c', e = Ending.returned (.tuple #[.agg #[.slice a' m c', .int .i64 t, .int .i64 y], .agg #[.int .i64 0, .int .i64 0, .int .i64 0], .string ByteArray.empty, .bool false]) ∧ QOk w' a' m c' xs ∧ Below w.heap.size w w' := fun e w' h => ⟨ao, c, h.1, hq.later h.2, h.2⟩
      by_cases k1 : k = 1
      · subst k1
        cases h : sayB s with
        | false => exact (l10Step_k1a ao m c t y s w (by omega) hs h).mono hend
        | true => exact (l10Step_k1b ao m c t y s w (by omega) hs h (fun e => hsay (sayOk_iff.2 ⟨rfl, by simpa [sayB] using h, by rw [hq.len]; exact e⟩))).mono hend
      · by_cases k2 : k = 2
        · subst k2
          by_cases h0 : s = ByteArray.empty
          · exact (l10Step_k2b ao m c t y s w (by omega) h0 (fun e => htk (tickOk_iff.2 ⟨⟨rfl, h0⟩, e⟩))).mono hend
          · exact (l10Step_k2a ao m c t y s w (by omega) h0).mono hend
        · exact (l10Step_k0 ao m c t y k s w (by omega) k1 k2).mono hend

theorem implStep_c (ao : Option Addr) (n c : Nat) (t y k : Int) (s : ByteArray) (xs : List ByteArray) (w : World) (hn : n ≤ 17592186044416) (hq : QOk w ao n c xs) (hz : ∀ s ∈ xs, s.size ≤ 9223372036854775807) (hs : s.size ≤ 9223372036854775807) (r : StV) (hr : stepF xs t y k s = r) (m : Nat) (hm : r.q.length = m) :
    Calls Try.prog 29 #[.agg #[.slice ao n c, .int .i64 t, .int .i64 y], .agg #[.int .i64 k, .string s]] w fun e w' => ∃ a' c', e = .returned (.tuple #[.agg #[.slice a' m c', .int .i64 r.t, .int .i64 r.y], .agg #[.int .i64 r.e0, .int .i64 r.e1, .int .i64 r.e2], .string r.s, .bool r.ok]) ∧ OwnS w' w.heap.size (.slice a' m c') r.q ∧ Below w.heap.size w w' := by
  have hx := hq.len
  unfold stepF at hr
  have hend : zeroSt = r → ∀ e w', e = Ending.returned (.tuple #[.agg #[.slice none 0 0, .int .i64 0, .int .i64 0], .agg #[.int .i64 0, .int .i64 0, .int .i64 0], .string ByteArray.empty, .bool false]) ∧ Below w.heap.size w w' → ∃ a' c', e = Ending.returned (.tuple #[.agg #[.slice a' m c', .int .i64 r.t, .int .i64 r.y], .agg #[.int .i64 r.e0, .int .i64 r.e1, .int .i64 r.e2], .string r.s, .bool r.ok]) ∧ OwnS w' w.heap.size (.slice a' m c') r.q ∧ Below w.heap.size w w' := fun hr e w' h => by
    subst hr
    have hm' : m = 0 := by rw [← hm]; rfl
    subst hm'
    exact ⟨none, 0, h.1, OwnS.nilq _ _, h.2⟩
  cases hg : goodC xs t y with
  | false =>
    rw [if_neg (by rw [hg]; simp)] at hr
    exact (implStep_bad ao n c t y k s xs w hx hn hq.rd hz hs hg).mono (hend hr)
  | true =>
    rw [if_pos hg] at hr
    by_cases hsay : sayOk xs k s = true
    · obtain ⟨rfl, h15, hl⟩ := sayOk_iff.1 hsay
      rw [stepV_say hsay] at hr
      subst hr
      have hm' : m = n + 1 := by rw [← hm, ← hq.len]; simp [sayV]
      subst hm'
      exact implStep_say ao n c t y 1 s xs w hx hn hq.rd hz hs hg rfl (by simpa [sayB] using h15) (by rw [← hx]; exact hl)
    · by_cases htk : tickOk t k s = true
      · obtain ⟨rfl, rfl, hlt⟩ := tick_k htk
        rw [stepV_tick hsay htk] at hr
        subst hr
        have hm' : m = n - 1 := by rw [← hm, ← hq.len]; simp [tickV]
        subst hm'
        exact implStep_tick ao n c t y 2 ByteArray.empty xs w hx hn hq.rd hz hs hg hq.cap (by omega) (by simp [tickB]) hlt
      · rw [stepV_no hsay htk] at hr
        by_cases k1 : k = 1
        · subst k1
          cases h : sayB s with
          | false => exact (implStep_k1a ao n c t y 1 s xs w hx hn hq.rd hz hs hg rfl h).mono (hend hr)
          | true => exact (implStep_k1b ao n c t y 1 s xs w hx hn hq.rd hz hs hg rfl h (fun e => hsay (sayOk_iff.2 ⟨rfl, by simpa [sayB] using h, by rw [hx]; exact e⟩))).mono (hend hr)
        · cases h : tickB k s with
          | false => exact (implStep_k2a ao n c t y k s xs w hx hn hq.rd hz hs hg k1 h).mono (hend hr)
          | true => exact (implStep_k2b ao n c t y k s xs w hx hn hq.rd hz hs hg k1 h (fun e => htk (by simp [tickOk, h, e]))).mono (hend hr)

end Go.Proofs.Yteopaocomfepfaa
