/- Chapter 14: the closures of scalesOfEvidence. -/
import Derived.Test.YtleddlfojogdiaaGreatTF14
import Derived.Test.YtleddlfojogdiaaGreatS14
import Derived.Deep.RegionWith
import Derived.Deep.RegionLaw
import Derived.Lib.SliceRun
import Derived.Test.YtleddlfojogdiaaGreatCR14
import Derived.Test.YtleddlfojogdiaaGreatDE14
import Derived.Laws.EntriesVeiled
import Derived.Deep.RegionHeld3
import Derived.Lib.AppendZeros
namespace Go.Proofs.YtleddlfojogdiaaGreat
set_option linter.unusedVariables false
set_option maxRecDepth 1000000
set_option linter.unusedSimpArgs false
open Go.RowKit

set_option maxHeartbeats 4000000 in
theorem evid1_c (pf pl : Nat) (f : Int) (lo : Option Addr) (m d : Nat) (ls : List St) (h : Int) (wx : World) (hl : ls.length = m) (hm : m ≤ 60) (hs : RdS wx lo ls) (hf : wx.cell? ⟨pf, 0, none⟩ = some (.int .i64 f)) (hp : wx.cell? ⟨pl, 0, none⟩ = some (.slice lo m d)) (q : Nat) (hq : (debV f ls h).length = q) :
    Calls Tryz.prog 62 #[.int .i64 h, .pointer (some ⟨pf, 0, none⟩), .pointer (some ⟨pl, 0, none⟩)] wx fun e w' => ∃ a' c', e = .returned (.slice a' q c') ∧ OwnC w' wx.heap.size (.slice a' q c') (debV f ls h) ∧ Below wx.heap.size wx w' := by
  have q1 := implDebits_c f lo m d ls h wx hl (by omega) hs q hq
  generalize debV f ls h = dv at q1 ⊢
  generalize debOk f ls h = ob at q1
  clear hl hs hq
  go_enter Tryz.func62, Tryz.ntmps62
  go_wp2_with fail
  refine q1.mono ?_
  clear q1
  rintro e w1 ⟨a1, c1, rfl, ho, hb⟩
  have HO : Hid (OwnC w1 wx.heap.size (.slice a1 q c1) dv) := ho
  have HB : Hid (Below wx.heap.size wx w1) := hb
  clear ho hb
  go_wp2
  go_ret
  exact ⟨a1, c1, rfl, HO.out, HB.out⟩

set_option maxHeartbeats 4000000 in
theorem evid3_c (pf pl pd : Nat) (f : Int) (lo : Option Addr) (m d : Nat) (ls : List St) (h : Int) (wx : World) (hl : ls.length = m) (hm : m ≤ 60) (hs : RdS wx lo ls) (hf : wx.cell? ⟨pf, 0, none⟩ = some (.int .i64 f)) (hp : wx.cell? ⟨pl, 0, none⟩ = some (.slice lo m d)) (hd : wx.cell? ⟨pd, 0, none⟩ = some (.func (.func 62) #[] #[.pointer (some ⟨pf, 0, none⟩), .pointer (some ⟨pl, 0, none⟩)])) :
    Calls Tryz.prog 65 #[.int .i64 h, .pointer (some ⟨pd, 0, none⟩)] wx fun e w' => e = .returned (.int .i64 ((debV f ls h).length : Nat)) ∧ Below wx.heap.size wx w' := by
  have q1 := evid1_c pf pl f lo m d ls h wx hl hm hs hf hp _ rfl
  generalize debV f ls h = dv at q1 ⊢
  clear hl hs hf hp
  go_enter Tryz.func65, Tryz.ntmps65
  go_wp2_with fail
  refine q1.mono ?_
  clear q1
  rintro e w1 ⟨a1, c1, rfl, ho, hb⟩
  have HB : Hid (Below wx.heap.size wx w1) := hb
  clear ho hb
  go_wp2
  go_ret
  exact ⟨rfl, HB.out⟩

set_option maxHeartbeats 4000000 in
theorem evid2_c (pf pl pc pd : Nat) (f : Int) (ao : Option Addr) (n c : Nat) (xs : List Cl) (lo : Option Addr) (m d : Nat) (ls : List St) (h : Int) (wx : World) (hx : xs.length = n) (hn : n ≤ 60) (hc : n ≤ c) (hr : RdC wx ao xs) (hl : ls.length = m) (hm : m ≤ 60) (hs : RdS wx lo ls) (hf : wx.cell? ⟨pf, 0, none⟩ = some (.int .i64 f)) (hp : wx.cell? ⟨pl, 0, none⟩ = some (.slice lo m d)) (hd : wx.cell? ⟨pd, 0, none⟩ = some (.func (.func 62) #[] #[.pointer (some ⟨pf, 0, none⟩), .pointer (some ⟨pl, 0, none⟩)])) (hv : wx.cell? ⟨pc, 0, none⟩ = some (.slice ao n c)) :
    Calls Tryz.prog 63 #[.int .i64 h, .pointer (some ⟨pc, 0, none⟩), .pointer (some ⟨pd, 0, none⟩)] wx fun e w' => e = .returned (.int .i64 (credTo h xs (debV f ls h) n)) ∧ Below wx.heap.size wx w' := by
  obtain ⟨q, hq⟩ : ∃ q, (debV f ls h).length = q := ⟨_, rfl⟩
  have hq60 : q ≤ 60 := by rw [← hq]; exact debV_length f ls h
  have HQ1 : Hid (∀ wy, Below wx.heap.size wx wy → Calls Tryz.prog 62 #[.int .i64 h, .pointer (some ⟨pf, 0, none⟩), .pointer (some ⟨pl, 0, none⟩)] wy fun e w' => ∃ a' c', e = .returned (.slice a' q c') ∧ OwnC w' wy.heap.size (.slice a' q c') (debV f ls h) ∧ Below wy.heap.size wy w') := fun wy hb => evid1_c pf pl f lo m d ls h wy hl hm (hs.later hb) (cell_keep (S := 0) hb hf) (cell_keep (S := 0) hb hp) q hq
  have HR : Hid (RdC wx ao xs) := hr
  have HX : Hid (xs.length = n) := hx
  generalize debV f ls h = dv at hq HQ1 ⊢
  have HQ : Hid (dv.length = q) := hq
  have HBd : Hid (Below wx.heap.size wx wx.drew) := (Below.refl _ _).drew
  clear hx hr hl hs hf hp hq
  go_enter Tryz.func63, Tryz.ntmps63
  go_wp2_with fail
  go_region_held3 (fun w' => w'.cell? ⟨pc, 0, none⟩ = some (.slice ao n c) ∧ w'.cell? ⟨pd, 0, none⟩ = some (.func (.func 62) #[] #[.pointer (some ⟨pf, 0, none⟩), .pointer (some ⟨pl, 0, none⟩)])) (first | go_keep) (first
    | (go_at_call 62; refine (HQ1.out _ HBd.out).mono ?_; rintro e w1 ⟨a1, c1, rfl, ho, hb⟩; have ka0 := cell_keep (S := 0) (w1 := wx.drew) hb hv; have ka1 := cell_keep (S := 0) (w1 := wx.drew) hb hd; have HO1 : Hid (OwnC w1 wx.drew.heap.size (.slice a1 q c1) dv) := ho; have HB1 : Hid (Below wx.heap.size wx w1) := HBd.out.trans (hb.mono HBd.out.size); clear ho hb)
    | (go_at_call 64; refine (creditsFor_c h ao n c xs a1 q c1 dv _ HX.out HQ.out hn hq60 hc (HR.out.later HB1.out) HO1.out.rd'.2).mono ?_; rintro e w2 ⟨rfl, hb⟩; have kb0 := cell_keep (S := 0) (w1 := w1) hb ka0; have kb1 := cell_keep (S := 0) (w1 := w1) hb ka1; have HB2 : Hid (Below wx.heap.size wx w2) := HB1.out.trans (hb.mono HB1.out.size); clear hb))
  all_goals (
    go_wp2
    go_ret
    exact ⟨rfl, HB2.out⟩)

end Go.Proofs.YtleddlfojogdiaaGreat
