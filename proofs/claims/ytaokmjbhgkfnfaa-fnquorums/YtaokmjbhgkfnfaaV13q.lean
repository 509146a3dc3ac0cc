/- Chapter 13: what a sitting tells. -/
import Derived.Test.YtaokmjbhgkfnfaaU13q
namespace Go.Proofs.Ytaokmjbhgkfnfaa
set_option linter.unusedVariables false
set_option maxRecDepth 1000000
set_option linter.unusedSimpArgs false
open Go.RowKit

theorem takeV13 {P : Program} {ops : Array Oper} {Q : Exit → Act → World → Prop} {md : Region.Mode} {S : World → Prop} {i : Nat} {oi : Oper} {v : Value} {d : Option Tmp} {fuel : Nat} {listed : Array Bool} {a : Act} {w : World} (hi : ops[i]? = some oi) (hd : oi.dst = d)
  (hs : Region.noSelect ops = true) (hf : Region.free md ops listed i = true) (hr : (Region.ready md ops listed).contains i = true)
  (hQ : ∀ c a w, Q (.panic c) (a.put d v) w → Q (.panic c) a w) (hy : YieldsIf P ops S oi v a) (hS : S w)
  (h : wpAnyH P md ops Q S fuel (listed.setIfInBounds i true) (a.put d v) w) : wpAnyH P md ops Q S (fuel + 1) listed a w := by
 subst hd
 exact wpAnyH_take hi hs hf hr hQ hy hS h

theorem upto_congr {n : Nat} {p q : Nat → Bool} (h : ∀ m, m < n → p m = q m) : upto n p = upto n q := by
 unfold upto
 rw [List.filter_congr (fun x hx => h x (List.mem_range.1 hx))]

def keptX (N : Nat) (li : List Int) (xss : List (List Int)) : Bool := (List.range N).all fun m => !(decide (1 < (xss.getD m []).length) && !decide (((m : Nat) : Int) ∈ li))
def sgnX (N : Nat) (xss : List (List Int)) (x : Int) : List Int := upto N fun m => decide (x ∈ xss.getD m [])
def comX (N : Nat) (li : List Int) (xss : List (List Int)) (x y : Int) : List Int := upto N fun m => !decide ((m : Int) ∈ li) && (decide (x ∈ xss.getD m []) && decide (y ∈ xss.getD m []))

theorem all_range_false {n k : Nat} {p : Nat → Bool} (hk : k < n) (h : p k = false) : (List.range n).all p = false := by
 rw [Bool.eq_false_iff]; intro g
 have := List.all_eq_true.1 g k (List.mem_range.2 hk)
 rw [h] at this; cases this
theorem all_range_true {n : Nat} {p : Nat → Bool} (h : ∀ j, j < n → p j = true) : (List.range n).all p = true := List.all_eq_true.2 (fun x hx => h x (List.mem_range.1 hx))

set_option maxHeartbeats 1000000 in
theorem isKept_c (f : Int) (la : Option Addr) (ln lc : Nat) (ga : Option Addr) (N : Nat) (li : List Int) (xss : List (List Int)) (w : World) (hl : li.length = ln) (hln : ln ≤ 1000) (hrl : Rd w la li) (hR : Ris ltI li) (hx : xss.length = N) (hN : N ≤ 7) (hr : RdII w ga xss) (hRR : ∀ l ∈ xss, Ris ltI l) (hlen : ∀ l ∈ xss, l.length ≤ 1000) :
  Calls Try.prog 64 #[.agg #[.int .i64 f, .slice la ln lc, .slice ga N N]] w fun e w' => e = .returned (.bool (keptX N li xss)) ∧ Below w.heap.size w w' := by
 have hB := balloc w (.cells #[.int .i64 f, .slice la ln lc, .slice ga N N] 97)
 have hC := x3_new w (.int .i64 f) (.slice la ln lc) (.slice ga N N) 97 w.heap.size rfl
 obtain ⟨V, hV⟩ : ∃ V, w.alloc (.cells #[.int .i64 f, .slice la ln lc, .slice ga N N] 97) = V := ⟨_, rfl⟩
 rw [hV] at hB hC
 have HB0 : Hid (Below w.heap.size w V) := hB
 have HC : Hid (X3 V w.heap.size (.int .i64 f) (.slice la ln lc) (.slice ga N N)) := hC
 have HRL : Hid (∀ wx, Below V.heap.size V wx → Rd wx la li) := fun wx h => (hrl.later hB).later h
 have HRX : Hid (∀ wx, Below V.heap.size V wx → RdII wx ga xss) := fun wx h => (hr.later hB).later h
 have HL : Hid (li.length = ln) := hl
 have HX : Hid (xss.length = N) := hx
 have HRI : Hid (Ris ltI li) := hR
 have HRS : Hid (∀ l ∈ xss, Ris ltI l) := hRR
 have HLN : Hid (∀ l ∈ xss, l.length ≤ 1000) := hlen
 obtain ⟨⟨g0, g1, g2⟩, _⟩ := hC
 clear hB hl hrl hR hx hr hRR hlen
 have HF : Hid (∀ k, k < N → (!(decide (1 < (xss.getD k []).length) && !decide (((k : Nat) : Int) ∈ li))) = false → keptX N li xss = false) := fun k hk h => all_range_false hk h
 have HE : Hid ((∀ j, j < N → (!(decide (1 < (xss.getD j []).length) && !decide (((j : Nat) : Int) ∈ li))) = true) → keptX N li xss = true) := fun h => all_range_true h
 generalize keptX N li xss = zb at HF HE ⊢
 go_enter Try.func64, Try.ntmps64
 go_wp2
 clear hV g0 g1 g2
 go_loopw [8] (fun iv wr => ∃ (k : Nat), k ≤ N ∧ iv = .int .i64 k ∧ Hid (∀ j, j < k → (!(decide (1 < (xss.getD j []).length) && !decide (((j : Nat) : Int) ∈ li))) = true) ∧ Hid (Below V.heap.size V wr)) (fun iv _ => N - (intOf iv).toNat)
 case atStart => exact ⟨0, Nat.zero_le _, rfl, fun j h => absurd h (by omega), Below.refl _ _⟩
 case round =>
  obtain ⟨k, hk, rfl, HS, HB⟩ := hrel
  by_cases hlt : k < N
  ·have hkl : k < xss.length := by rw [HX.out]; exact hlt
   obtain ⟨b, o, ro, rc, rfl, r1, hro⟩ := (HRX.out _ HB.out).get hkl
   have hris := HRS.out _ (mem_getD [] hkl)
   have hlen := HLN.out _ (mem_getD [] hkl)
   have k0 : (0 : Int) ≤ (k : Int) := by omega
   have k1 : (k : Int) < (N : Int) := by omega
   obtain ⟨⟨c0, c1, c2⟩, _⟩ := HC.out.later HB.out
   have HFk : Hid ((!(decide (1 < (xss.getD k []).length) && !decide (((k : Nat) : Int) ∈ li))) = false → zb = false) := HF.out k hlt
   have HSk : Hid ((!(decide (1 < (xss.getD k []).length) && !decide (((k : Nat) : Int) ∈ li))) = true → ∀ j, j < k + 1 → (!(decide (1 < (xss.getD j []).length) && !decide (((j : Nat) : Int) ∈ li))) = true) := fun h j hj => by
    by_cases e : j = k
    ·rw [e]; exact h
    ·exact HS.out j (by omega)
   have q := isLiar_c f la ln lc li (k : Int) wr HL.out (by omega) (HRL.out _ HB.out) HRI.out
   generalize (xss.getD k []).length = rn at r1 HFk HSk
   clear hkl hro hris hlen
   by_cases h1 : 1 < rn
   ·have h1' : (1 : Int) < (rn : Int) := by omega
    cases hz : decide (((k : Nat) : Int) ∈ li)
    ·have HN : Hid (zb = false) := HFk.out (by rw [hz, decide_eq_true h1]; rfl)
     rw [hz] at q
     clear hz HFk HSk h1
     go_wp2_with fail
     refine q.mono ?_
     clear q
     rintro e w' ⟨rfl, hb⟩
     go_wp2
     go_ret
     exact ⟨ret_bool HN.out.symm, HB0.out.trans ((HB.out.trans (hb.mono HB.out.size)).mono HB0.out.size)⟩
    ·have HN := HSk.out (by rw [hz]; simp)
     have HN2 : Hid (∀ j, j < k + 1 → (!(decide (1 < (xss.getD j []).length) && !decide (((j : Nat) : Int) ∈ li))) = true) := HN
     rw [hz] at q
     clear hz HFk HSk h1 HN
     go_wp2_with fail
     refine q.mono ?_
     clear q
     rintro e w' ⟨rfl, hb⟩
     go_wp2
     exact ⟨⟨k + 1, by omega, by go_num, HN2, HB.out.trans (hb.mono HB.out.size)⟩, by simp [intOf]; omega⟩
   ·have h1' : ¬ (1 : Int) < (rn : Int) := by omega
    have HN2 : Hid (∀ j, j < k + 1 → (!(decide (1 < (xss.getD j []).length) && !decide (((j : Nat) : Int) ∈ li))) = true) := HSk.out (by rw [decide_eq_false h1]; rfl)
    clear q HFk HSk h1
    go_wp2
    exact ⟨⟨k + 1, by omega, by go_num, HN2, HB⟩, by simp [intOf]; omega⟩
  ·obtain rfl : k = N := by omega
   have HM : Hid (zb = true) := HE.out HS.out
   go_wp2
   go_ret
   exact ⟨ret_bool HM.out.symm, HB0.out.trans (HB.out.mono HB0.out.size)⟩

theorem upto_len_succ {n : Nat} {p : Nat → Bool} {b : Bool} (h : p n = b) : (upto (n + 1) p).length = (upto n p).length + (if b = true then 1 else 0) := by
 rw [upto_succ, h]; cases b <;> simp

set_option maxHeartbeats 1000000 in
theorem signersOf_c (f : Int) (la : Option Addr) (ln lc : Nat) (ga : Option Addr) (N : Nat) (li : List Int) (xss : List (List Int)) (x : Int) (w : World) (hl : li.length = ln) (hln : ln ≤ 1000) (hrl : Rd w la li) (hR : Ris ltI li) (hx : xss.length = N) (hN : N ≤ 7) (hr : RdII w ga xss) (hRR : ∀ l ∈ xss, Ris ltI l) (hlen : ∀ l ∈ xss, l.length ≤ 1000) :
  Calls Try.prog 101 #[.agg #[.int .i64 f, .slice la ln lc, .slice ga N N], .int .i64 x] w fun e w' => e = .returned (.int .i64 ((sgnX N xss x).length : Nat)) ∧ Below w.heap.size w w' := by
 have hB := balloc w (.cells #[.int .i64 f, .slice la ln lc, .slice ga N N] 97)
 have hC := x3_new w (.int .i64 f) (.slice la ln lc) (.slice ga N N) 97 w.heap.size rfl
 obtain ⟨V, hV⟩ : ∃ V, w.alloc (.cells #[.int .i64 f, .slice la ln lc, .slice ga N N] 97) = V := ⟨_, rfl⟩
 rw [hV] at hB hC
 have HB0 : Hid (Below w.heap.size w V) := hB
 have HC : Hid (X3 V w.heap.size (.int .i64 f) (.slice la ln lc) (.slice ga N N)) := hC
 have HRL : Hid (∀ wx, Below V.heap.size V wx → Rd wx la li) := fun wx h => (hrl.later hB).later h
 have HRX : Hid (∀ wx, Below V.heap.size V wx → RdII wx ga xss) := fun wx h => (hr.later hB).later h
 have HL : Hid (li.length = ln) := hl
 have HX : Hid (xss.length = N) := hx
 have HRI : Hid (Ris ltI li) := hR
 have HRS : Hid (∀ l ∈ xss, Ris ltI l) := hRR
 have HLN : Hid (∀ l ∈ xss, l.length ≤ 1000) := hlen
 obtain ⟨⟨g0, g1, g2⟩, _⟩ := hC
 clear hB hl hrl hR hx hr hRR hlen
 go_enter Try.func101, Try.ntmps101
 go_wp2
 clear hV g0 g1 g2
 go_loopw [5, 11] (fun cv iv wr => ∃ (k q : Nat), k ≤ N ∧ iv = .int .i64 k ∧ cv = .int .i64 q ∧ Hid ((upto k fun m => decide (x ∈ xss.getD m [])).length = q) ∧ Hid (Below V.heap.size V wr)) (fun _ iv _ => N - (intOf iv).toNat)
 case atStart => exact ⟨0, 0, Nat.zero_le _, rfl, rfl, rfl, Below.refl _ _⟩
 case round =>
  obtain ⟨k, p, hk, rfl, rfl, HQ, HB⟩ := hrel
  have hpk : p ≤ k := by rw [← HQ.out]; exact upto_len _ _
  by_cases hlt : k < N
  ·have hkl : k < xss.length := by rw [HX.out]; exact hlt
   obtain ⟨b, o, ro, rc, rfl, r1, hro⟩ := (HRX.out _ HB.out).get hkl
   have hris := HRS.out _ (mem_getD [] hkl)
   have hlen := HLN.out _ (mem_getD [] hkl)
   have k0 : (0 : Int) ≤ (k : Int) := by omega
   have k1 : (k : Int) < (N : Int) := by omega
   obtain ⟨⟨c0, c1, c2⟩, _⟩ := HC.out.later HB.out
   have q := has_c ro _ rc (xss.getD k []) x wr rfl (by omega) hro hris
   have HSC : Hid (∀ b, decide (x ∈ xss.getD k []) = b → (upto (k + 1) fun m => decide (x ∈ xss.getD m [])).length = p + (if b = true then 1 else 0)) := fun b h => by rw [upto_len_succ h, HQ.out]
   cases hz : decide (x ∈ xss.getD k [])
   ·have HN : Hid ((upto (k + 1) fun m => decide (x ∈ xss.getD m [])).length = p) := HSC.out _ hz
    rw [hz] at q
    generalize (xss.getD k []).length = rn at r1 q
    clear hkl hro hris hlen hz HSC
    go_wp2_with fail
    refine q.mono ?_
    clear q
    rintro e w' ⟨rfl, hb⟩
    go_wp2
    exact ⟨⟨k + 1, p, by omega, by go_num, rfl, HN, HB.out.trans (hb.mono HB.out.size)⟩, by simp [intOf]; omega⟩
   ·have HN : Hid ((upto (k + 1) fun m => decide (x ∈ xss.getD m [])).length = p + 1) := HSC.out _ hz
    rw [hz] at q
    generalize (xss.getD k []).length = rn at r1 q
    clear hkl hro hris hlen hz HSC
    go_wp2_with fail
    refine q.mono ?_
    clear q
    rintro e w' ⟨rfl, hb⟩
    go_wp2
    exact ⟨⟨k + 1, p + 1, by omega, by go_num, by go_num, HN, HB.out.trans (hb.mono HB.out.size)⟩, by simp [intOf]; omega⟩
  ·obtain rfl : k = N := by omega
   have HM : Hid ((sgnX k xss x).length = p) := HQ.out
   go_wp2
   go_ret
   exact ⟨(by rw [HM.out]; rfl), HB0.out.trans (HB.out.mono HB0.out.size)⟩

set_option maxHeartbeats 2000000 in
theorem honestOf_c (f : Int) (la : Option Addr) (ln lc : Nat) (ga : Option Addr) (N : Nat) (li : List Int) (xss : List (List Int)) (x y : Int) (w : World) (hl : li.length = ln) (hln : ln ≤ 1000) (hrl : Rd w la li) (hR : Ris ltI li) (hx : xss.length = N) (hN : N ≤ 7) (hr : RdII w ga xss) (hRR : ∀ l ∈ xss, Ris ltI l) (hlen : ∀ l ∈ xss, l.length ≤ 1000) :
  Calls Try.prog 78 #[.agg #[.int .i64 f, .slice la ln lc, .slice ga N N], .int .i64 x, .int .i64 y] w fun e w' => ∃ a' n' c', e = .returned (.slice a' n' c') ∧ Own w' w.heap.size (.slice a' n' c') (comX N li xss x y) ∧ Below w.heap.size w w' := by
 have hB := balloc w (.cells #[.int .i64 f, .slice la ln lc, .slice ga N N] 97)
 have hC := x3_new w (.int .i64 f) (.slice la ln lc) (.slice ga N N) 97 w.heap.size rfl
 obtain ⟨V, hV⟩ : ∃ V, w.alloc (.cells #[.int .i64 f, .slice la ln lc, .slice ga N N] 97) = V := ⟨_, rfl⟩
 rw [hV] at hB hC
 have HB0 : Hid (Below w.heap.size w V) := hB
 have HC : Hid (X3 V w.heap.size (.int .i64 f) (.slice la ln lc) (.slice ga N N)) := hC
 have HRL : Hid (∀ wx, Below V.heap.size V wx → Rd wx la li) := fun wx h => (hrl.later hB).later h
 have HRX : Hid (∀ wx, Below V.heap.size V wx → RdII wx ga xss) := fun wx h => (hr.later hB).later h
 have HL : Hid (li.length = ln) := hl
 have HX : Hid (xss.length = N) := hx
 have HRI : Hid (Ris ltI li) := hR
 have HRS : Hid (∀ l ∈ xss, Ris ltI l) := hRR
 have HLN : Hid (∀ l ∈ xss, l.length ≤ 1000) := hlen
 obtain ⟨⟨g0, g1, g2⟩, _⟩ := hC
 clear hB hl hrl hR hx hr hRR hlen
 have hVS : w.heap.size ≤ V.heap.size := HB0.out.size
 have HVS : Hid (w.heap.size ≤ V.heap.size) := hVS
 clear hVS
 go_enter Try.func78, Try.ntmps78
 go_wp2
 clear hV g0 g1 g2
 go_loopw [7, 13] (fun lv iv wr => ∃ (k : Nat) (a' : Option Addr) (n' c' : Nat), k ≤ N ∧ iv = .int .i64 k ∧ lv = .slice a' n' c' ∧ Hid (Own wr V.heap.size (.slice a' n' c') (comX k li xss x y)) ∧ Hid (Below V.heap.size V wr)) (fun _ iv _ => N - (intOf iv).toNat)
 case atStart => exact ⟨0, none, 0, 0, Nat.zero_le _, rfl, rfl, World.ownsRow_nil _ _ _ _, Below.refl _ _⟩
 case round =>
  obtain ⟨k, a', n', c', hk, rfl, rfl, HO, HB⟩ := hrel
  by_cases hlt : k < N
  ·have hkl : k < xss.length := by rw [HX.out]; exact hlt
   obtain ⟨b, o, ro, rc, rfl, r1, hro⟩ := (HRX.out _ HB.out).get hkl
   have hris := HRS.out _ (mem_getD [] hkl)
   have hlen := HLN.out _ (mem_getD [] hkl)
   have k0 : (0 : Int) ≤ (k : Int) := by omega
   have k1 : (k : Int) < (N : Int) := by omega
   obtain ⟨⟨c0, c1, c2⟩, _⟩ := HC.out.later HB.out
   have hnk : n' ≤ k := by rw [← HO.out.rd'.1]; exact upto_len _ _
   have HSC : Hid (∀ b, (!decide ((k : Int) ∈ li) && (decide (x ∈ xss.getD k []) && decide (y ∈ xss.getD k []))) = b → comX (k + 1) li xss x y = comX k li xss x y ++ (if b = true then [(k : Int)] else [])) := fun b h => by unfold comX; rw [upto_succ, h]
   have q0 := isLiar_c f la ln lc li (k : Int) wr HL.out (by omega) (HRL.out _ HB.out) HRI.out
   have HQ1 : Hid (∀ z wx, Below wr.heap.size wr wx → Calls Try.prog 99 #[.slice ro (xss.getD k []).length rc, .int .i64 z] wx fun e w' => e = .returned (.bool (decide (z ∈ xss.getD k []))) ∧ Below wx.heap.size wx w') := fun z wx h => has_c ro _ rc (xss.getD k []) z wx rfl (by omega) (hro.later h) hris
   have HQX : Hid (∀ wx, Below wr.heap.size wr wx → Calls Try.prog 99 #[.slice ro (xss.getD k []).length rc, .int .i64 x] wx fun e w' => e = .returned (.bool (decide (x ∈ xss.getD k []))) ∧ Below wx.heap.size wx w') := fun wx h => HQ1.out x wx h
   have HQY : Hid (∀ wx, Below wr.heap.size wr wx → Calls Try.prog 99 #[.slice ro (xss.getD k []).length rc, .int .i64 y] wx fun e w' => e = .returned (.bool (decide (y ∈ xss.getD k []))) ∧ Below wx.heap.size wx w') := fun wx h => HQ1.out y wx h
   generalize decide ((k : Int) ∈ li) = z0 at q0 HSC
   generalize decide (x ∈ xss.getD k []) = z1 at HQX HSC
   generalize decide (y ∈ xss.getD k []) = z2 at HQY HSC
   generalize (xss.getD k []).length = rn at r1 HQX HQY
   clear hkl hro hris hlen HQ1
   cases z0
   case true =>
    have HN : Hid (comX (k + 1) li xss x y = comX k li xss x y) := by show _ = _; rw [HSC.out _ rfl]; simp
    clear HSC HQX HQY
    go_wp2_with fail
    refine q0.mono ?_
    clear q0
    rintro e w' ⟨rfl, hb⟩
    go_wp2
    exact ⟨⟨k + 1, a', n', c', by omega, by go_num, rfl, by show Own _ _ _ _; rw [HN.out]; exact HO.out.later hb, HB.out.trans (hb.mono HB.out.size)⟩, by simp [intOf]; omega⟩
   case false =>
    go_wp2_with fail
    refine q0.mono ?_
    clear q0 c0 c1 c2 r1
    rintro e w3 ⟨rfl, hb3⟩
    cases z1
    case false =>
     have HN : Hid (comX (k + 1) li xss x y = comX k li xss x y) := by show _ = _; rw [HSC.out _ rfl]; simp
     have q1 := HQX.out w3 hb3
     clear HSC HQX HQY
     have HB3 : Hid (Below wr.heap.size wr w3) := hb3
     clear hb3
     go_wp2_with fail
     refine q1.mono ?_
     clear q1
     rintro e w' ⟨rfl, hb⟩
     have HB4 : Hid (Below wr.heap.size wr w') := HB3.out.trans (hb.mono HB3.out.size)
     clear hb
     go_wp2
     exact ⟨⟨k + 1, a', n', c', by omega, by go_num, rfl, by show Own _ _ _ _; rw [HN.out]; exact HO.out.later HB4.out, HB.out.trans (HB4.out.mono HB.out.size)⟩, by simp [intOf]; omega⟩
    case true =>
     have q1 := HQX.out w3 hb3
     have HB3 : Hid (Below wr.heap.size wr w3) := hb3
     clear hb3 HQX
     go_wp2_with fail
     refine q1.mono ?_
     clear q1
     rintro e w4 ⟨rfl, hb⟩
     have hb4 : Below wr.heap.size wr w4 := HB3.out.trans (hb.mono HB3.out.size)
     have q2 := HQY.out w4 hb4
     have HB4 : Hid (Below wr.heap.size wr w4) := hb4
     clear hb hb4 HB3 HQY
     cases z2
     case false =>
      have HN : Hid (comX (k + 1) li xss x y = comX k li xss x y) := by show _ = _; rw [HSC.out _ rfl]; simp
      clear HSC
      go_wp2_with fail
      refine q2.mono ?_
      clear q2
      rintro e w' ⟨rfl, hb⟩
      have HB5 : Hid (Below wr.heap.size wr w') := HB4.out.trans (hb.mono HB4.out.size)
      clear hb
      go_wp2
      exact ⟨⟨k + 1, a', n', c', by omega, by go_num, rfl, by show Own _ _ _ _; rw [HN.out]; exact HO.out.later HB5.out, HB.out.trans (HB5.out.mono HB.out.size)⟩, by simp [intOf]; omega⟩
     case true =>
      have HN : Hid (comX (k + 1) li xss x y = comX k li xss x y ++ [(k : Int)]) := by show _ = _; rw [HSC.out _ rfl]; simp
      clear HSC
      go_wp2_with fail
      refine q2.mono ?_
      clear q2
      rintro e w5 ⟨rfl, hb⟩
      have HB5 : Hid (Below wr.heap.size wr w5) := HB4.out.trans (hb.mono HB4.out.size)
      clear hb HB4
      have hVB : V.heap.size ≤ w5.heap.size := Nat.le_trans HB.out.size HB5.out.size
      have hbL := balloc w5 (.cells #[.int .i64 (k : Int)] 3)
      have hLit := litI w5 (k : Int)
      have hOL := (HO.out.later HB5.out).later hbL
      obtain ⟨v', w6, r1, o1, gg, b1⟩ := appendI_run (w5.alloc (.cells #[.int .i64 (k : Int)] 3)) V.heap.size (.slice a' n' c') (comX k li xss x y) [(k : Int)] (some ⟨w5.heap.size, 0, none⟩) 1 1 hOL hLit rfl (fun e => by cases e) (by have := upto_len k fun m => !decide ((m : Int) ∈ li) && (decide (x ∈ xss.getD m []) && decide (y ∈ xss.getD m [])); unfold comX; omega) (Nat.le_trans hVB hbL.size)
      have HB6 : Hid (Below V.heap.size V w6) := (HB.out.trans ((HB5.out.trans (hbL.mono HB5.out.size)).mono HB.out.size)).trans b1
      rw [← HN.out] at o1
      obtain ⟨a6, c6, hv6⟩ := o1.shape
      subst hv6
      have HO6 : Hid (Own w6 V.heap.size (.slice a6 (comX (k + 1) li xss x y).length c6) (comX (k + 1) li xss x y)) := o1
      clear o1 gg b1 hbL hLit hOL hVB HB5 HN
      go_wp2_with (first | (at_builtin; refine Lib.wpList_append_run _ rfl _ _ _ _ rfl _ _ rfl rfl _ _ (r1 _) ?_; clear r1))
      exact ⟨⟨k + 1, a6, _, c6, by omega, by go_num, rfl, HO6, HB6⟩, by simp [intOf]; omega⟩
  ·obtain rfl : k = N := by omega
   go_wp2
   go_ret
   exact ⟨_, _, _, rfl, HO.out.mono HVS.out, HB0.out.trans (HB.out.mono HB0.out.size)⟩

end Go.Proofs.Ytaokmjbhgkfnfaa
