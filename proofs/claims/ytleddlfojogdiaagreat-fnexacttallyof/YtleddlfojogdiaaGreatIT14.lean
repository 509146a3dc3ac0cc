/- Chapter 14: TallyOf of the program. -/
import Derived.Test.YtleddlfojogdiaaGreatSE14
import Derived.Test.YtleddlfojogdiaaGreatS14
import Derived.Deep.RegionWith
import Derived.Deep.RegionLaw
import Derived.Lib.SliceRun
import Derived.Test.YtleddlfojogdiaaGreatTE14
import Derived.Test.YtleddlfojogdiaaGreatFC14
import Derived.Deep.RegionHeld3
import Derived.Lib.AppendZeros
namespace Go.Proofs.YtleddlfojogdiaaGreat
set_option linter.unusedVariables false
set_option maxRecDepth 1000000
set_option linter.unusedSimpArgs false
open Go.RowKit

theorem takeT14i {P : Program} {ops : Array Oper} {Q : Exit → Act → World → Prop} {md : Region.Mode} {S : World → Prop} {i : Nat} {oi : Oper} {v : Value} {d : Option Tmp} {fuel : Nat} {listed : Array Bool} {a : Act} {w : World} (hi : ops[i]? = some oi) (hd : oi.dst = d)
    (hs : Region.noSelect ops = true) (hf : Region.free md ops listed i = true) (hr : (Region.ready md ops listed).contains i = true)
    (hQ : ∀ c a w, Q (.panic c) (a.put d v) w → Q (.panic c) a w) (hy : YieldsIf P ops S oi v a) (hS : S w)
    (h : wpAnyH P md ops Q S fuel (listed.setIfInBounds i true) (a.put d v) w) : wpAnyH P md ops Q S (fuel + 1) listed a w := by
  subst hd
  exact wpAnyH_take hi hs hf hr hQ hy hS h

theorem tallyV_no {n f : Int} {xs : List Cl} {ls : List St} (e : tallyOk n f xs ls = false) : tallyV n f xs ls = [] := by
  unfold tallyV; rw [e]; rfl

theorem tallyV_yes {n f : Int} {xs : List Cl} {ls : List St} (e : tallyOk n f xs ls = true) : tallyV n f xs ls = tallyL n.toNat f xs ls := by
  unfold tallyV; rw [if_pos e]

set_option maxHeartbeats 8000000 in
theorem implTally_no (n f : Int) (ao : Option Addr) (nx c : Nat) (lo : Option Addr) (m d : Nat) (xs : List Cl) (ls : List St) (w : World) (hx : xs.length = nx) (hl : ls.length = m) (hn : nx ≤ 17592186044416) (hm : m ≤ 17592186044416) (hc : nx ≤ c) (hr : RdC w ao xs) (hs : RdS w lo ls) (q : Nat) (hq : (tallyV n f xs ls).length = q) (hno : tallyOk n f xs ls = false) :
    Calls Tryz.prog 6 #[.int .i64 n, .int .i64 f, .slice ao nx c, .slice lo m d] w fun e w' => ∃ a' c', e = .returned (.tuple #[.slice a' q c', .bool (tallyOk n f xs ls)]) ∧ OwnU w' w.heap.size (.slice a' q c') (tallyV n f xs ls) ∧ Below w.heap.size w w' := by
  have e2 := tallyV_no hno
  rw [e2] at hq ⊢
  obtain rfl : q = 0 := hq.symm
  rw [hno]
  have g0 := fun wx => isHandCount_c n wx
  have g1 := fun wx => isFaults_c f wx
  have g2 := fun wx (hb : Below w.heap.size w wx) => areFewC_c ao nx c xs wx hx hn (RdC.later hr hb)
  have g3 := fun wx (hb : Below w.heap.size w wx) => areStatements_c lo m d ls wx hl hm (RdS.later hs hb)
  have ho : (inB n 1 12 && (inB f 0 2 && ((xs.all clB && decide (xs.length ≤ 60)) && stsB ls))) = false := hno
  clear hno e2 hq hx hl hr hs
  generalize inB n 1 12 = b0 at g0 ho
  generalize inB f 0 2 = b1 at g1 ho
  generalize (xs.all clB && decide (xs.length ≤ 60)) = b2 at g2 ho
  generalize stsB ls = b3 at g3 ho
  have HQ0 : Hid (∀ wx, Calls Tryz.prog 31 #[.int .i64 n] wx fun e w' => e = .returned (.bool b0) ∧ w' = wx) := g0
  have HQ1 : Hid (∀ wx, Calls Tryz.prog 32 #[.int .i64 f] wx fun e w' => e = .returned (.bool b1) ∧ w' = wx) := g1
  have HQ2 : Hid (∀ wx, Below w.heap.size w wx → Calls Tryz.prog 33 #[.slice ao nx c, .int .i64 60, .func (.func 34) #[] #[]] wx fun e w' => e = .returned (.bool b2) ∧ Below wx.heap.size wx w') := g2
  have HQ3 : Hid (∀ wx, Below w.heap.size w wx → Calls Tryz.prog 35 #[.slice lo m d] wx fun e w' => e = .returned (.bool b3) ∧ Below wx.heap.size wx w') := g3
  clear g0 g1 g2 g3
  cases b0
  · clear ho HQ1 HQ2 HQ3
    go_enter Tryz.func6, Tryz.ntmps6
    go_wp2_with fail
    refine (HQ0.out _).mono ?_
    rintro e w' ⟨rfl, hw⟩
    subst w'
    go_wp2
    refine bodyPost_ret (v := .tuple #[.slice none 0 0, .bool false]) (by simp [results, Tryz.results6, go_sem]; try rfl) rfl ?_
    exact ⟨none, 0, rfl, own_nilU _ _, Below.refl _ _⟩
  cases b1
  · clear ho HQ2 HQ3
    go_enter Tryz.func6, Tryz.ntmps6
    go_wp2_with fail
    refine (HQ0.out _).mono ?_
    rintro e w' ⟨rfl, hw⟩
    subst w'
    go_wp2_with fail
    refine (HQ1.out _).mono ?_
    rintro e w' ⟨rfl, hw⟩
    subst w'
    go_wp2
    refine bodyPost_ret (v := .tuple #[.slice none 0 0, .bool false]) (by simp [results, Tryz.results6, go_sem]; try rfl) rfl ?_
    exact ⟨none, 0, rfl, own_nilU _ _, Below.refl _ _⟩
  cases b2
  · clear ho HQ3
    go_enter Tryz.func6, Tryz.ntmps6
    go_wp2_with fail
    refine (HQ0.out _).mono ?_
    rintro e w' ⟨rfl, hw⟩
    subst w'
    go_wp2_with fail
    refine (HQ1.out _).mono ?_
    rintro e w' ⟨rfl, hw⟩
    subst w'
    go_wp2_with fail
    refine (HQ2.out _ (Below.refl _ _)).mono ?_
    rintro e D1 ⟨rfl, hb⟩
    have HB1 : Hid (Below w.heap.size w D1) := hb
    clear hb
    go_wp2
    refine bodyPost_ret (v := .tuple #[.slice none 0 0, .bool false]) (by simp [results, Tryz.results6, go_sem]; try rfl) rfl ?_
    exact ⟨none, 0, rfl, own_nilU _ _, HB1.out⟩
  cases b3
  · clear ho
    go_enter Tryz.func6, Tryz.ntmps6
    go_wp2_with fail
    refine (HQ0.out _).mono ?_
    rintro e w' ⟨rfl, hw⟩
    subst w'
    go_wp2_with fail
    refine (HQ1.out _).mono ?_
    rintro e w' ⟨rfl, hw⟩
    subst w'
    go_wp2_with fail
    refine (HQ2.out _ (Below.refl _ _)).mono ?_
    rintro e D1 ⟨rfl, hb⟩
    have HB1 : Hid (Below w.heap.size w D1) := hb
    clear hb
    go_wp2_with fail
    refine (HQ3.out _ HB1.out).mono ?_
    rintro e D2 ⟨rfl, hb⟩
    have HB2 : Hid (Below w.heap.size w D2) := HB1.out.trans (hb.mono HB1.out.size)
    clear hb
    go_wp2
    refine bodyPost_ret (v := .tuple #[.slice none 0 0, .bool false]) (by simp [results, Tryz.results6, go_sem]; try rfl) rfl ?_
    exact ⟨none, 0, rfl, own_nilU _ _, HB2.out⟩
  exact absurd ho (by simp)

set_option maxHeartbeats 8000000 in
theorem implTally_c (n f : Int) (ao : Option Addr) (nx c : Nat) (lo : Option Addr) (m d : Nat) (xs : List Cl) (ls : List St) (w : World) (hx : xs.length = nx) (hl : ls.length = m) (hn : nx ≤ 17592186044416) (hm : m ≤ 17592186044416) (hc : nx ≤ c) (hr : RdC w ao xs) (hs : RdS w lo ls) (q : Nat) (hq : (tallyV n f xs ls).length = q) :
    Calls Tryz.prog 6 #[.int .i64 n, .int .i64 f, .slice ao nx c, .slice lo m d] w fun e w' => ∃ a' c', e = .returned (.tuple #[.slice a' q c', .bool (tallyOk n f xs ls)]) ∧ OwnU w' w.heap.size (.slice a' q c') (tallyV n f xs ls) ∧ Below w.heap.size w w' := by
  cases hok : tallyOk n f xs ls
  case false => have := implTally_no n f ao nx c lo m d xs ls w hx hl hn hm hc hr hs q hq hok; rw [hok] at this; exact this
  have e2 := tallyV_yes hok
  have hgd := tallyL_good n f xs ls hok
  rw [e2] at hq ⊢
  have g0 := fun wx => isHandCount_c n wx
  have g1 := fun wx => isFaults_c f wx
  have g2 := fun wx (hb : Below w.heap.size w wx) => areFewC_c ao nx c xs wx hx hn (RdC.later hr hb)
  have g3 := fun wx (hb : Below w.heap.size w wx) => areStatements_c lo m d ls wx hl hm (RdS.later hs hb)
  have ho : (inB n 1 12 && (inB f 0 2 && ((xs.all clB && decide (xs.length ≤ 60)) && stsB ls))) = true := hok
  simp only [Bool.and_eq_true] at ho
  obtain ⟨o0, o1, ⟨o2, o2'⟩, o3⟩ := ho
  rw [o0] at g0
  rw [o1] at g1
  rw [o2, o2', Bool.and_true] at g2
  rw [o3] at g3
  have hin : 1 ≤ n ∧ n ≤ 12 := of_decide_eq_true o0
  have hx60 : nx ≤ 60 := by rw [← hx]; exact of_decide_eq_true o2'
  have hm60 : m ≤ 60 := by rw [← hl]; exact stsB_few o3
  obtain ⟨N, hN⟩ : ∃ N : Nat, n = (N : Int) := ⟨n.toNat, by omega⟩
  subst hN
  have hN12 : N ≤ 12 := by omega
  rw [show ((N : Nat) : Int).toNat = N from rfl] at hq hgd ⊢
  have HDV : Hid (∀ k : Nat, k < N → debV f ls (k : Int) = debL f ls (k : Int)) := fun k hk => (debV_yes o3 o1 (by unfold inB; rw [decide_eq_true_eq]; omega)).2
  obtain ⟨vg, hvg⟩ : ∃ vg : Nat → Int, vg = (fun k : Nat => (credTo (k : Int) xs (debL f ls (k : Int)) xs.length : Int)) := ⟨_, rfl⟩
  obtain ⟨vb, hvb⟩ : ∃ vb : Nat → Int, vb = (fun k : Nat => ((debL f ls (k : Int)).length : Int)) := ⟨_, rfl⟩
  have eT : tallyL N f xs ls = talT N vg vb := by rw [hvg, hvb]; rfl
  have HVG : Hid (∀ k : Nat, k < N → vg k = (credTo (k : Int) xs (debV f ls (k : Int)) nx : Int)) := fun k hk => by rw [hvg, HDV.out k hk, ← hx]
  have HVB : Hid (∀ k : Nat, k < N → vb k = ((debV f ls (k : Int)).length : Int)) := fun k hk => by rw [hvb, HDV.out k hk]
  rw [eT] at hq hgd ⊢
  have hV : talV N vg vb = talT N vg vb := by unfold talV; rw [if_pos hgd]
  have HQ : Hid ((talV N vg vb).length = q) := by show _ = _; rw [hV]; exact hq
  have HGD : Hid (tasB (talT N vg vb) = true) := hgd
  have HV : Hid (talV N vg vb = talT N vg vb) := hV
  obtain ⟨lv, hlv⟩ : ∃ lv, talT N vg vb = lv := ⟨_, rfl⟩
  have HLV : Hid (talT N vg vb = lv) := hlv
  rw [hlv]
  have HQ0 : Hid (∀ wx, Calls Tryz.prog 31 #[.int .i64 (N : Int)] wx fun e w' => e = .returned (.bool true) ∧ w' = wx) := g0
  have HQ1 : Hid (∀ wx, Calls Tryz.prog 32 #[.int .i64 f] wx fun e w' => e = .returned (.bool true) ∧ w' = wx) := g1
  have HQ2 : Hid (∀ wx, Below w.heap.size w wx → Calls Tryz.prog 33 #[.slice ao nx c, .int .i64 60, .func (.func 34) #[] #[]] wx fun e w' => e = .returned (.bool true) ∧ Below wx.heap.size wx w') := g2
  have HQ3 : Hid (∀ wx, Below w.heap.size w wx → Calls Tryz.prog 35 #[.slice lo m d] wx fun e w' => e = .returned (.bool true) ∧ Below wx.heap.size wx w') := g3
  have HR : Hid (RdC w ao xs) := hr
  have HS : Hid (RdS w lo ls) := hs
  have HX : Hid (xs.length = nx) := hx
  have HL : Hid (ls.length = m) := hl
  clear hx hl hr hs g0 g1 g2 g3 o0 o1 o2 o2' o3 hok hq hgd hvg hvb eT hV hlv e2 hin HDV
  go_enter Tryz.func6, Tryz.ntmps6
  go_wp2_with fail
  refine (HQ0.out _).mono ?_
  rintro e w' ⟨rfl, hw⟩
  subst w'
  go_wp2_with fail
  refine (HQ1.out _).mono ?_
  rintro e w' ⟨rfl, hw⟩
  subst w'
  go_wp2_with fail
  refine (HQ2.out _ (Below.refl _ _)).mono ?_
  rintro e D1 ⟨rfl, hb⟩
  have HB1 : Hid (Below w.heap.size w D1) := hb
  clear hb
  go_wp2_with fail
  refine (HQ3.out _ HB1.out).mono ?_
  rintro e D2 ⟨rfl, hb⟩
  have HB2 : Hid (Below w.heap.size w D2) := HB1.out.trans (hb.mono HB1.out.size)
  clear hb
  go_wp2_with fail
  refine (scalesOfEvidence_c f ao nx c lo m d _).mono ?_
  rintro e w3 ⟨rfl, ⟨hk0, hk1, hk2⟩, hk4, hb⟩
  have HB3 : Hid (Below w.heap.size w w3) := HB2.out.trans (hb.mono HB2.out.size)
  have q3 := talliesEv_c (D2.heap.size + 1) (D2.heap.size + 1 + 1 + 1 + 1) N vg vb w3 hN12
    (fun k wx hk hb => by rw [HVG.out k hk]; exact evid2_c D2.heap.size (D2.heap.size + 1 + 1) _ _ f ao nx c xs lo m d ls k wx HX.out hx60 hc (HR.out.later (HB3.out.trans (hb.mono HB3.out.size))) HL.out hm60 (HS.out.later (HB3.out.trans (hb.mono HB3.out.size))) (cell_keep (S := 0) hb hk0) (cell_keep (S := 0) hb hk2) (cell_keep (S := 0) hb hk4) (cell_keep (S := 0) hb hk1))
    (fun k wx hk hb => by rw [HVB.out k hk]; exact evid3_c D2.heap.size (D2.heap.size + 1 + 1) _ f lo m d ls k wx HL.out hm60 (HS.out.later (HB3.out.trans (hb.mono HB3.out.size))) (cell_keep (S := 0) hb hk0) (cell_keep (S := 0) hb hk2) (cell_keep (S := 0) hb hk4)) q HQ.out
  rw [HV.out, HGD.out, HLV.out] at q3
  clear hb hk0 hk1 hk2 hk4
  go_wp2_with fail
  refine q3.mono ?_
  clear q3
  rintro e w4 ⟨a4, c4, rfl, ho, hb⟩
  have HO5 : Hid (OwnU w4 w.heap.size (.slice a4 q c4) lv) := ho.mono HB3.out.size
  have HB4 : Hid (Below w.heap.size w w4) := HB3.out.trans (hb.mono HB3.out.size)
  clear ho hb
  go_wp2
  refine bodyPost_ret (v := .tuple #[.slice a4 q c4, .bool true]) (by simp [results, Tryz.results6, go_sem]; try rfl) rfl ?_
  exact ⟨a4, c4, rfl, HO5.out, HB4.out⟩

end Go.Proofs.YtleddlfojogdiaaGreat
