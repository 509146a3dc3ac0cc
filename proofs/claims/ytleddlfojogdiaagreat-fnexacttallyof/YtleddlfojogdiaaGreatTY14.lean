/- Chapter 14: TallyOf of the specification. -/
import Derived.Test.YtleddlfojogdiaaGreatHC14
import Derived.Test.YtleddlfojogdiaaGreatS14
import Derived.Deep.RegionWith
import Derived.Deep.RegionLaw
import Derived.Lib.SliceRun
import Derived.Test.YtleddlfojogdiaaGreatCR14
import Derived.Test.YtleddlfojogdiaaGreatIT14
import Derived.Deep.RegionHeld3
import Derived.Lib.AppendZeros
namespace Go.Proofs.YtleddlfojogdiaaGreat
set_option linter.unusedVariables false
set_option maxRecDepth 1000000
set_option linter.unusedSimpArgs false
open Go.RowKit

theorem takeT14s {P : Program} {ops : Array Oper} {Q : Exit → Act → World → Prop} {md : Region.Mode} {S : World → Prop} {i : Nat} {oi : Oper} {v : Value} {d : Option Tmp} {fuel : Nat} {listed : Array Bool} {a : Act} {w : World} (hi : ops[i]? = some oi) (hd : oi.dst = d)
    (hs : Region.noSelect ops = true) (hf : Region.free md ops listed i = true) (hr : (Region.ready md ops listed).contains i = true)
    (hQ : ∀ c a w, Q (.panic c) (a.put d v) w → Q (.panic c) a w) (hy : YieldsIf P ops S oi v a) (hS : S w)
    (h : wpAnyH P md ops Q S fuel (listed.setIfInBounds i true) (a.put d v) w) : wpAnyH P md ops Q S (fuel + 1) listed a w := by
  subst hd
  exact wpAnyH_take hi hs hf hr hQ hy hS h

theorem tallyL_succ (k : Nat) (f : Int) (xs : List Cl) (ls : List St) : tallyL (k + 1) f xs ls = tallyL k f xs ls ++ [((k : Int), (credTo (k : Int) xs (debL f ls (k : Int)) xs.length : Int), ((debL f ls (k : Int)).length : Int))] := by
  unfold tallyL
  rw [List.range_succ, List.map_append]
  rfl

set_option maxHeartbeats 8000000 in
theorem specTally_no (n f : Int) (ao : Option Addr) (nx c : Nat) (lo : Option Addr) (m d : Nat) (xs : List Cl) (ls : List St) (w : World) (hx : xs.length = nx) (hl : ls.length = m) (hn : nx ≤ 17592186044416) (hm : m ≤ 17592186044416) (hc : nx ≤ c) (hr : RdC w ao xs) (hs : RdS w lo ls) (q : Nat) (hq : (tallyV n f xs ls).length = q) (hno : ¬ (inB n 1 12 = true ∧ inB f 0 2 = true ∧ nx ≤ 60 ∧ stsB ls = true)) :
    Calls Tryz.prog 7 #[.int .i64 n, .int .i64 f, .slice ao nx c, .slice lo m d] w fun e w' => ∃ a' c', e = .returned (.tuple #[.slice a' q c', .bool (tallyOk n f xs ls)]) ∧ OwnU w' w.heap.size (.slice a' q c') (tallyV n f xs ls) ∧ Below w.heap.size w w' := by
  have hok : tallyOk n f xs ls = false := by
    rw [Bool.eq_false_iff]
    intro h
    unfold tallyOk at h
    simp only [Bool.and_eq_true, decide_eq_true_eq] at h
    exact hno ⟨h.1, h.2.1, by omega, h.2.2.2⟩
  have e2 := tallyV_no hok
  rw [e2] at hq ⊢
  obtain rfl : q = 0 := hq.symm
  rw [hok]
  have g0 := fun wx => l1In_c n 1 12 wx
  have g1 := fun wx => l1In_c f 0 2 wx
  have g3 := fun wx (hb : Below w.heap.size w wx) => l12Good_c lo m d ls wx hl hm (RdS.later hs hb)
  clear hok e2 hq hx hl hr hs
  generalize inB n 1 12 = b0 at g0 hno
  generalize inB f 0 2 = b1 at g1 hno
  generalize stsB ls = b3 at g3 hno
  have HQ0 : Hid (∀ wx, Calls Tryz.prog 38 #[.int .i64 n, .int .i64 1, .int .i64 12] wx fun e w' => e = .returned (.bool b0) ∧ w' = wx) := g0
  have HQ1 : Hid (∀ wx, Calls Tryz.prog 38 #[.int .i64 f, .int .i64 0, .int .i64 2] wx fun e w' => e = .returned (.bool b1) ∧ w' = wx) := g1
  have HQ3 : Hid (∀ wx, Below w.heap.size w wx → Calls Tryz.prog 39 #[.slice lo m d] wx fun e w' => e = .returned (.bool b3) ∧ Below wx.heap.size wx w') := g3
  clear g0 g1 g3
  cases b0
  · clear hno HQ1 HQ3
    go_enter Tryz.func7, Tryz.ntmps7
    go_wp2_with fail
    refine (HQ0.out _).mono ?_
    rintro e w' ⟨rfl, hw⟩
    subst w'
    go_wp2
    refine bodyPost_ret (v := .tuple #[.slice none 0 0, .bool false]) (by simp [results, Tryz.results7, go_sem]; try rfl) rfl ?_
    exact ⟨none, 0, rfl, own_nilU _ _, Below.refl _ _⟩
  cases b1
  · clear hno HQ3
    go_enter Tryz.func7, Tryz.ntmps7
    go_wp2_with fail
    refine (HQ0.out _).mono ?_
    rintro e w' ⟨rfl, hw⟩
    subst w'
    go_wp2_with fail
    refine (HQ1.out _).mono ?_
    rintro e w' ⟨rfl, hw⟩
    subst w'
    go_wp2
    refine bodyPost_ret (v := .tuple #[.slice none 0 0, .bool false]) (by simp [results, Tryz.results7, go_sem]; try rfl) rfl ?_
    exact ⟨none, 0, rfl, own_nilU _ _, Below.refl _ _⟩
  by_cases h6 : nx ≤ 60
  case neg =>
    have h60 : (nx : Int) > 60 := by omega
    clear hno HQ3 h6
    go_enter Tryz.func7, Tryz.ntmps7
    go_wp2_with fail
    refine (HQ0.out _).mono ?_
    rintro e w' ⟨rfl, hw⟩
    subst w'
    go_wp2_with fail
    refine (HQ1.out _).mono ?_
    rintro e w' ⟨rfl, hw⟩
    subst w'
    go_wp2
    refine bodyPost_ret (v := .tuple #[.slice none 0 0, .bool false]) (by simp [results, Tryz.results7, go_sem]; try rfl) rfl ?_
    exact ⟨none, 0, rfl, own_nilU _ _, Below.refl _ _⟩
  have h60 : ¬ (nx : Int) > 60 := by omega
  cases b3
  · clear hno
    go_enter Tryz.func7, Tryz.ntmps7
    go_wp2_with fail
    refine (HQ0.out _).mono ?_
    rintro e w' ⟨rfl, hw⟩
    subst w'
    go_wp2_with fail
    refine (HQ1.out _).mono ?_
    rintro e w' ⟨rfl, hw⟩
    subst w'
    go_wp2_with fail
    refine (HQ3.out _ (Below.refl _ _)).mono ?_
    rintro e D2 ⟨rfl, hb⟩
    have HB2 : Hid (Below w.heap.size w D2) := hb
    clear hb
    go_wp2
    refine bodyPost_ret (v := .tuple #[.slice none 0 0, .bool false]) (by simp [results, Tryz.results7, go_sem]; try rfl) rfl ?_
    exact ⟨none, 0, rfl, own_nilU _ _, HB2.out⟩
  exact absurd ⟨rfl, rfl, h6, rfl⟩ hno

set_option maxHeartbeats 16000000 in
theorem specTally_c (n f : Int) (ao : Option Addr) (nx c : Nat) (lo : Option Addr) (m d : Nat) (xs : List Cl) (ls : List St) (w : World) (hx : xs.length = nx) (hl : ls.length = m) (hn : nx ≤ 17592186044416) (hm : m ≤ 17592186044416) (hc : nx ≤ c) (hr : RdC w ao xs) (hs : RdS w lo ls) (q : Nat) (hq : (tallyV n f xs ls).length = q) :
    Calls Tryz.prog 7 #[.int .i64 n, .int .i64 f, .slice ao nx c, .slice lo m d] w fun e w' => ∃ a' c', e = .returned (.tuple #[.slice a' q c', .bool (tallyOk n f xs ls)]) ∧ OwnU w' w.heap.size (.slice a' q c') (tallyV n f xs ls) ∧ Below w.heap.size w w' := by
  by_cases G : inB n 1 12 = true ∧ inB f 0 2 = true ∧ nx ≤ 60 ∧ stsB ls = true
  case neg => exact specTally_no n f ao nx c lo m d xs ls w hx hl hn hm hc hr hs q hq G
  obtain ⟨o0, o1, hx60, o3⟩ := G
  have HOK : Hid (tallyOk n f xs ls = xs.all clB) := by
    show _ = _
    unfold tallyOk
    rw [o0, o1, o3, decide_eq_true (show xs.length ≤ 60 by omega)]
    simp
  have g0 := fun wx => l1In_c n 1 12 wx
  have g1 := fun wx => l1In_c f 0 2 wx
  have g3 := fun wx (hb : Below w.heap.size w wx) => l12Good_c lo m d ls wx hl hm (RdS.later hs hb)
  rw [o0] at g0
  rw [o1] at g1
  rw [o3] at g3
  have hin : 1 ≤ n ∧ n ≤ 12 := of_decide_eq_true o0
  have hm60 : m ≤ 60 := by rw [← hl]; exact stsB_few o3
  obtain ⟨N, hN⟩ : ∃ N : Nat, n = (N : Int) := ⟨n.toNat, by omega⟩
  subst hN
  have hN12 : N ≤ 12 := by omega
  have h60 : ¬ (nx : Int) > 60 := by omega
  have HQ0 : Hid (∀ wx, Calls Tryz.prog 38 #[.int .i64 (N : Int), .int .i64 1, .int .i64 12] wx fun e w' => e = .returned (.bool true) ∧ w' = wx) := g0
  have HQ1 : Hid (∀ wx, Calls Tryz.prog 38 #[.int .i64 f, .int .i64 0, .int .i64 2] wx fun e w' => e = .returned (.bool true) ∧ w' = wx) := g1
  have HQ3 : Hid (∀ wx, Below w.heap.size w wx → Calls Tryz.prog 39 #[.slice lo m d] wx fun e w' => e = .returned (.bool true) ∧ Below wx.heap.size wx w') := g3
  have HR : Hid (RdC w ao xs) := hr
  have HS0 : Hid (RdS w lo ls) := hs
  have HX : Hid (xs.length = nx) := hx
  have HL : Hid (ls.length = m) := hl
  have HNO : Hid (xs.all clB = false → tallyOk N f xs ls = false ∧ tallyV N f xs ls = [] ∧ q = 0) := fun h => by
    have e := HOK.out.trans h
    have e2 := tallyV_no e
    exact ⟨e, e2, by rw [e2] at hq; exact hq.symm⟩
  have HYES : Hid (xs.all clB = true → tallyOk N f xs ls = true ∧ tallyV N f xs ls = tallyL N f xs ls ∧ (tallyL N f xs ls).length = q) := fun h => by
    have e := HOK.out.trans h
    have e2 : tallyV N f xs ls = tallyL N f xs ls := tallyV_yes e
    exact ⟨e, e2, by rw [e2] at hq; exact hq⟩
  have HF : Hid (∀ k, k < nx → clB (xs.getD k (0, 0, 0)) = false → xs.all clB = false) := fun k hk h => all_out (d := (0, 0, 0)) (by omega) h
  have HE : Hid ((∀ j, j < nx → clB (xs.getD j (0, 0, 0)) = true) → xs.all clB = true) := fun h => all_end (d := (0, 0, 0)) (fun j hj => h j (by omega))
  obtain ⟨okb, hokb⟩ : ∃ b, tallyOk N f xs ls = b := ⟨_, rfl⟩
  obtain ⟨tv, htv⟩ : ∃ t, tallyV N f xs ls = t := ⟨_, rfl⟩
  rw [hokb, htv] at HNO HYES
  rw [hokb, htv]
  clear hx hl hr hs g0 g1 g3 o0 o1 o3 hq hin HOK hokb htv
  go_enter Tryz.func7, Tryz.ntmps7
  go_wp2_with fail
  refine (HQ0.out _).mono ?_
  rintro e w' ⟨rfl, hw⟩
  subst w'
  go_wp2_with fail
  refine (HQ1.out _).mono ?_
  rintro e w' ⟨rfl, hw⟩
  subst w'
  go_wp2_with fail
  refine (HQ3.out _ (Below.refl _ _)).mono ?_
  rintro e D2 ⟨rfl, hb⟩
  have HB2 : Hid (Below w.heap.size w D2) := hb
  clear hb
  go_wp2_with fail
  go_loopw [38] (fun iv wr => ∃ (k : Nat), k ≤ nx ∧ iv = .int .i64 k ∧ Hid (∀ j, j < k → clB (xs.getD j (0, 0, 0)) = true) ∧ Hid (Below w.heap.size w wr)) (fun iv _ => nx - (intOf iv).toNat)
  case atStart => exact ⟨0, Nat.zero_le _, rfl, fun j h => absurd h (by omega), HB2.out⟩
  case round =>
    obtain ⟨k, hk, rfl, HSk, HB⟩ := hrel
    by_cases hlt : k < nx
    · have hkl : k < xs.length := by rw [HX.out]; exact hlt
      have HFk : Hid (clB (xs.getD k (0, 0, 0)) = false → xs.all clB = false) := HF.out k hlt
      have HSn : Hid (clB (xs.getD k (0, 0, 0)) = true → ∀ j, j < k + 1 → clB (xs.getD j (0, 0, 0)) = true) := fun gm j hj => by
        by_cases e : j = k
        · rw [e]; exact gm
        · exact HSk.out j (by omega)
      obtain ⟨b, o, rfl, g0, g1, g2⟩ := (RdC.later HR.out HB.out).get hkl
      clear HSk hkl HF HE
      generalize xs.getD k (0, 0, 0) = s at *
      obtain ⟨x0, x1, x2⟩ := s
      simp only at g0 g1 g2
      have HW : Hid (Below w.heap.size w (wr.alloc (.cells #[.int .i64 x0, .int .i64 x1, .int .i64 x2] 32))) := HB.out.alloc HB.out.size _
      have qg := fun wx => specGood_c x0 x1 x2 wx
      cases gm : clB (x0, x1, x2)
      · obtain ⟨e1, e2, e3⟩ := HNO.out (HFk.out gm)
        have HE1 : Hid (okb = false) := e1
        have HE2 : Hid (tv = []) := e2
        subst e3
        rw [gm] at qg
        clear gm HFk HSn e1 e2 HNO HYES
        go_wp2_with fail
        refine (qg _).mono ?_
        clear qg
        rintro e w1 ⟨rfl, hb⟩
        have HB1 : Hid (Below w.heap.size w w1) := HW.out.trans (hb.mono HW.out.size)
        clear hb
        go_wp2
        refine bodyPost_ret (v := .tuple #[.slice none 0 0, .bool false]) (by simp [results, Tryz.results7, go_sem]; try rfl) rfl ?_
        exact ⟨none, 0, by rw [HE1.out], by rw [HE2.out]; exact own_nilU _ _, HB1.out⟩
      · have HS2 : Hid (∀ j, j < k + 1 → clB (xs.getD j (0, 0, 0)) = true) := HSn.out gm
        rw [gm] at qg
        clear gm HFk HSn
        go_wp2_with fail
        refine (qg _).mono ?_
        clear qg
        rintro e w1 ⟨rfl, hb⟩
        have HB1 : Hid (Below w.heap.size w w1) := HW.out.trans (hb.mono HW.out.size)
        clear hb
        go_wp2
        go_roundw
        case rel => exact ⟨k + 1, by omega, by go_num, HS2, HB1⟩
        case measure => simp [intOf]; omega
    · obtain ⟨nz, hnz⟩ : ∃ z, z = nx := ⟨_, rfl⟩
      obtain rfl : k = nx := by omega
      subst hnz
      obtain ⟨e1, e2, e3⟩ := HYES.out (HE.out HSk.out)
      subst e1
      subst e2
      have HTQ : Hid ((tallyL N f xs ls).length = q) := e3
      clear e3 HNO HYES HF HE HSk hlt
      go_wp2
      obtain ⟨w1, hw1⟩ : ∃ w1, w1 = wr := ⟨_, rfl⟩
      subst hw1
      have HB1 : Hid (Below w.heap.size w w1) := HB
      go_loopw [12, 13] (fun ov iv wq => ∃ k' : Nat, k' ≤ N ∧ iv = .int .i64 k' ∧ Hid (OwnU wq w1.heap.size ov (tallyL k' f xs ls)) ∧ Hid (Below w1.heap.size w1 wq)) (fun _ iv _ => N - (intOf iv).toNat)
      case atStart => exact ⟨0, Nat.zero_le _, rfl, own_nilU _ _, Below.refl _ _⟩
      case round =>
        obtain ⟨k, hkN, rfl, hO, hB⟩ := hrel
        by_cases hlt : k < N
        · have hk1 : (k : Int) < (N : Int) := by omega
          have HLn : Hid ((tallyL k f xs ls).length = k) := tallyL_length k f xs ls
          have HSt : Hid (tallyL (k + 1) f xs ls = tallyL k f xs ls ++ [((k : Int), (credTo (k : Int) xs (debL f ls (k : Int)) xs.length : Int), ((debL f ls (k : Int)).length : Int))]) := tallyL_succ k f xs ls
          obtain ⟨a9, c9, hv⟩ := hO.out.shape
          rw [HLn.out] at hv
          subst hv
          have HO8 : Hid (OwnU wr w1.heap.size (.slice a9 k c9) (tallyL k f xs ls)) := hO
          generalize tallyL k f xs ls = out at HO8 HSt HLn
          have HB8 : Hid (Below w1.heap.size w1 wr) := hB
          clear hO hB
          go_wp2_with fail
          refine (l14Debits_c f lo m d ls (k : Int) _ HL.out hm60 (HS0.out.later (HB1.out.trans (HB8.out.mono HB1.out.size)))).mono ?_
          rintro e V0 ⟨a5, q5, c5, rfl, ho, hb⟩
          have HOd : Hid (OwnC V0 0 (.slice a5 q5 c5) (debL f ls (k : Int))) := ho.mono (Nat.zero_le _)
          have HO9 : Hid (OwnU V0 w1.heap.size (.slice a9 k c9) out) := HO8.out.later hb
          have HB9 : Hid (Below w1.heap.size w1 V0) := HB8.out.trans (hb.mono HB8.out.size)
          have HW0 : Hid (Below w.heap.size w V0) := HB1.out.trans (HB9.out.mono HB1.out.size)
          have hq5 : q5 ≤ 60 := by have h1 := debL_length f ls (k : Int); have h2 := ho.rd'.1; have h3 := HL.out; omega
          generalize debL f ls (k : Int) = dl at HOd HSt
          have HDq : Hid (dl.length = q5) := HOd.out.rd'.1
          clear ho hb HO8 HB8
          have bT := balloc V0 (.cells #[.int .i64 (k : Int), .int .i64 0, .int .i64 (q5 : Int)] 37)
          have aT := x3_new V0 (.int .i64 (k : Int)) (.int .i64 0) (.int .i64 (q5 : Int)) 37 V0.heap.size rfl
          obtain ⟨V1, hV1⟩ : ∃ V1, V0.alloc (.cells #[.int .i64 (k : Int), .int .i64 0, .int .i64 (q5 : Int)] 37) = V1 := ⟨_, rfl⟩
          rw [hV1] at bT aT
          have HT1 : Hid (X3 V1 V0.heap.size (.int .i64 (k : Int)) (.int .i64 0) (.int .i64 (q5 : Int))) := aT
          have HBT : Hid (Below V0.heap.size V0 V1) := bT
          clear bT aT
          go_wp2_with fail
          clear hV1
          go_loopw [61] (fun jv wq => ∃ j : Nat, j ≤ nz ∧ jv = .int .i64 j ∧ Hid (X3 wq V0.heap.size (.int .i64 (k : Int)) (.int .i64 ((credTo (k : Int) xs dl j : Nat) : Int)) (.int .i64 (q5 : Int))) ∧ Hid (Below V0.heap.size V0 wq)) (fun jv _ => nz - (intOf jv).toNat)
          case atStart => exact ⟨0, Nat.zero_le _, rfl, HT1.out, HBT.out⟩
          case round =>
            obtain ⟨j, hj, rfl, hT, hBi⟩ := hrel
            by_cases hjlt : j < nz
            · have hkl : j < xs.length := by rw [HX.out]; exact hjlt
              obtain ⟨b, o, rfl, g0, g1, g2⟩ := (RdC.later HR.out (HW0.out.trans (hBi.out.mono HW0.out.size))).get hkl
              have HSU : Hid (credTo k xs dl (j + 1) = credTo k xs dl j + (if credAt k xs dl j = true then 1 else 0)) := credTo_succ k xs dl j
              have hle := credTo_le k xs dl j
              have HCD : Hid (credAt k xs dl j = (decide ((xs.getD j (0, 0, 0)).1 = k) && (!decide (xs.getD j (0, 0, 0) ∈ xs.take j) && !decide (xs.getD j (0, 0, 0) ∈ dl)))) := rfl
              obtain ⟨y, hy⟩ : ∃ y, xs.getD j (0, 0, 0) = y := ⟨_, rfl⟩
              rw [hy] at g0 g1 g2 HCD
              obtain ⟨x0, x1, x2⟩ := y
              simp only at g0 g1 g2
              have r1' := fun wx (hb : Below V0.heap.size V0 wx) => l14HasClaim_c (some ⟨b, o, none⟩) j c (xs.take j) x0 x1 x2 wx (by rw [List.length_take, HX.out]; omega) (by omega) (RdC.later (RdC.front (RdC.later HR.out HW0.out) j) hb)
              have r2' := fun wx (hb : Below V0.heap.size V0 wx) => l14HasClaim_c a5 q5 c5 dl x0 x1 x2 wx HDq.out (by omega) (RdC.later HOd.out.rd'.2 hb)
              have HCE : Hid (credAt k xs dl j = (decide (x0 = (k : Int)) && (!decide ((x0, x1, x2) ∈ xs.take j) && !decide ((x0, x1, x2) ∈ dl)))) := HCD.out
              clear hy hkl HCD
              generalize decide ((x0, x1, x2) ∈ xs.take j) = p1 at r1' HCE
              generalize decide ((x0, x1, x2) ∈ dl) = p2 at r2' HCE
              have HA1 : Hid (∀ wx, Below V0.heap.size V0 wx → Calls Tryz.prog 42 #[.slice (some ⟨b, o, none⟩) j c, .agg #[.int .i64 x0, .int .i64 x1, .int .i64 x2]] wx fun e w' => e = .returned (.bool p1) ∧ Below wx.heap.size wx w') := r1'
              have HA2 : Hid (∀ wx, Below V0.heap.size V0 wx → Calls Tryz.prog 42 #[.slice a5 q5 c5, .agg #[.int .i64 x0, .int .i64 x1, .int .i64 x2]] wx fun e w' => e = .returned (.bool p2) ∧ Below wx.heap.size wx w') := r2'
              clear r1' r2'
              obtain ⟨c2, hc2⟩ : ∃ c2, credTo k xs dl (j + 1) = c2 := ⟨_, rfl⟩
              have HC2 : Hid (credTo k xs dl (j + 1) = c2) := hc2
              rw [hc2] at HSU
              clear hc2
              generalize credTo k xs dl j = c1 at HSU hle hT
              generalize credAt k xs dl j = ca at HSU HCE
              have bX := balloc wr (.cells #[.int .i64 x0, .int .i64 x1, .int .i64 x2] 32)
              have aX := x3_new wr (.int .i64 x0) (.int .i64 x1) (.int .i64 x2) 32 wr.heap.size rfl
              have tX := hT.out.later bX
              have BX := hBi.out.trans (bX.mono hBi.out.size)
              obtain ⟨V, hV⟩ : ∃ V, wr.alloc (.cells #[.int .i64 x0, .int .i64 x1, .int .i64 x2] 32) = V := ⟨_, rfl⟩
              rw [hV] at bX aX BX tX
              have HWV : Hid (Below V0.heap.size V0 V) := BX
              have HT : Hid (X3 V V0.heap.size (.int .i64 (k : Int)) (.int .i64 (c1 : Int)) (.int .i64 (q5 : Int))) := tX
              have HAX : Hid (X3 V wr.heap.size (.int .i64 x0) (.int .i64 x1) (.int .i64 x2)) := aX
              obtain ⟨⟨d0, d1, d2⟩, _⟩ := aX
              have hkc : (j : Int) ≤ (c : Int) := by omega
              have hk0 : (0 : Int) ≤ (j : Int) := by omega
              have hjn : (j : Int) < (nz : Int) := by omega
              clear bX BX tX hT hBi
              by_cases hh : x0 = (k : Int)
              · have hhb : (x0 == (k : Int)) = true := by simpa using hh
                have HC3 : Hid (c2 = c1 + (if (!p1 && !p2) = true then 1 else 0)) := by show _ = _; rw [HSU.out, HCE.out, decide_eq_true hh, Bool.true_and]
                clear hh HSU HCE
                cases p1
                · cases p2
                  · have HS : Hid (c2 = c1 + 1) := HC3.out
                    clear HC3
                    go_wp2_with fail
                    clear hV
                    have HWVd : Hid (Below V0.heap.size V0 V.drew) := HWV.out.drew
                    have HV0 : Hid (Below V.heap.size V V.drew) := (Below.refl _ _).drew
                    have tok1 : True := trivial
                    go_region_held3 (fun w' => w'.cell? ⟨wr.heap.size, 0, none⟩ = some (.int .i64 x0) ∧ w'.cell? ⟨wr.heap.size, 1, none⟩ = some (.int .i64 x1) ∧ w'.cell? ⟨wr.heap.size, 2, none⟩ = some (.int .i64 x2)) (first | go_keep) (first | (go_at_call 42; clear tok1; refine (HA1.out _ HWVd.out).mono ?_; rintro e w2 ⟨rfl, hb⟩; have ka0 := cell_keep (S := 0) (w1 := V.drew) hb d0; have ka1 := cell_keep (S := 0) (w1 := V.drew) hb d1; have ka2 := cell_keep (S := 0) (w1 := V.drew) hb d2; have HWw2 : Hid (Below V0.heap.size V0 w2) := HWVd.out.trans (hb.mono HWVd.out.size); have HVw2 : Hid (Below V.heap.size V w2) := HV0.out.trans (hb.mono HV0.out.size); clear hb) | (go_at_call 42; refine (HA2.out _ HWw2.out).mono ?_; rintro e w3 ⟨rfl, hb⟩; have kb0 := cell_keep (S := 0) (w1 := w2) hb ka0; have kb1 := cell_keep (S := 0) (w1 := w2) hb ka1; have kb2 := cell_keep (S := 0) (w1 := w2) hb ka2; have HVw3 : Hid (Below V.heap.size V w3) := HVw2.out.trans (hb.mono HVw2.out.size); clear hb))
                    all_goals (
                      obtain ⟨⟨z0, z1, z2⟩, zf⟩ := HT.out.later HVw3.out
                      have zf1 := zf 1
                      have HTW : Hid (X3 (w3.setCell ⟨V0.heap.size, 1, none⟩ (.int .i64 ((c1 : Int) + 1))) V0.heap.size (.int .i64 (k : Int)) (.int .i64 ((c1 : Int) + 1)) (.int .i64 (q5 : Int))) := (HT.out.later HVw3.out).set1 _
                      have HBW : Hid (Below V0.heap.size V0 (w3.setCell ⟨V0.heap.size, 1, none⟩ (.int .i64 ((c1 : Int) + 1)))) := (HWV.out.trans (HVw3.out.mono HWV.out.size)).setCell (Nat.le_refl _) _
                      have hwp : IntKind.i64.wrap ((c1 : Int) + 1) = (c1 : Int) + 1 := by simp [IntKind.wrap, IntKind.bits, IntKind.signed]; omega
                      clear zf
                      go_wp2
                      go_roundw
                      case rel => exact ⟨j + 1, by omega, by go_num, by show X3 _ _ _ _ _; rw [HC2.out, HS.out]; exact HTW.out, HBW.out⟩
                      case measure => simp [intOf]; omega)
                  · have HS : Hid (c2 = c1) := HC3.out
                    clear HC3
                    go_wp2_with fail
                    clear hV
                    have HWVd : Hid (Below V0.heap.size V0 V.drew) := HWV.out.drew
                    have HV0 : Hid (Below V.heap.size V V.drew) := (Below.refl _ _).drew
                    have tok1 : True := trivial
                    go_region_held3 (fun w' => w'.cell? ⟨wr.heap.size, 0, none⟩ = some (.int .i64 x0) ∧ w'.cell? ⟨wr.heap.size, 1, none⟩ = some (.int .i64 x1) ∧ w'.cell? ⟨wr.heap.size, 2, none⟩ = some (.int .i64 x2)) (first | go_keep) (first | (go_at_call 42; clear tok1; refine (HA1.out _ HWVd.out).mono ?_; rintro e w2 ⟨rfl, hb⟩; have ka0 := cell_keep (S := 0) (w1 := V.drew) hb d0; have ka1 := cell_keep (S := 0) (w1 := V.drew) hb d1; have ka2 := cell_keep (S := 0) (w1 := V.drew) hb d2; have HWw2 : Hid (Below V0.heap.size V0 w2) := HWVd.out.trans (hb.mono HWVd.out.size); have HVw2 : Hid (Below V.heap.size V w2) := HV0.out.trans (hb.mono HV0.out.size); clear hb) | (go_at_call 42; refine (HA2.out _ HWw2.out).mono ?_; rintro e w3 ⟨rfl, hb⟩; have kb0 := cell_keep (S := 0) (w1 := w2) hb ka0; have kb1 := cell_keep (S := 0) (w1 := w2) hb ka1; have kb2 := cell_keep (S := 0) (w1 := w2) hb ka2; have HVw3 : Hid (Below V.heap.size V w3) := HVw2.out.trans (hb.mono HVw2.out.size); clear hb))
                    all_goals (
                      go_wp2
                      go_roundw
                      case rel => exact ⟨j + 1, by omega, by go_num, by show X3 _ _ _ _ _; rw [HC2.out, HS.out]; exact HT.out.later HVw3.out, HWV.out.trans (HVw3.out.mono HWV.out.size)⟩
                      case measure => simp [intOf]; omega)
                · have HS : Hid (c2 = c1) := HC3.out
                  clear HC3 HA2
                  go_wp2_with fail
                  clear hV
                  have HWVd : Hid (Below V0.heap.size V0 V.drew) := HWV.out.drew
                  have HV0 : Hid (Below V.heap.size V V.drew) := (Below.refl _ _).drew
                  refine wp_region_held_drew (S := (fun w' => w'.cell? ⟨wr.heap.size, 0, none⟩ = some (.int .i64 x0) ∧ w'.cell? ⟨wr.heap.size, 1, none⟩ = some (.int .i64 x1) ∧ w'.cell? ⟨wr.heap.size, 2, none⟩ = some (.int .i64 x2))) (by kernel_rfl) ?_ (fun hHeld => ?_)
                  · exact (HAX.out.later HV0.out).1
                  refine takeT14s (i := 0) (oi := _) (v := ?_) (d := some 66) rfl (by kernel_rfl) (by kernel_rfl) (by kernel_rfl) (by kernel_rfl) (fun _ _ _ h => h) (Or.inl ⟨by rfl, ?_⟩) (by assumption) ?_
                  rotate_left
                  · (intro w hSw; (try dsimp only at hSw); go_simp <;> with_reducible rfl)
                  try simp only [Act.put, List.setIfInBounds_toArray, List.set_cons_zero, List.set_cons_succ]
                  refine takeT14s (i := 1) (oi := _) (v := ?_) (d := some 67) rfl (by kernel_rfl) (by kernel_rfl) (by kernel_rfl) (by kernel_rfl) (fun _ _ _ h => h) (Or.inl ⟨by rfl, ?_⟩) (by assumption) ?_
                  rotate_left
                  · (intro w hSw; (try dsimp only at hSw); go_simp <;> with_reducible rfl)
                  try simp only [Act.put, List.setIfInBounds_toArray, List.set_cons_zero, List.set_cons_succ]
                  refine takeT14s (i := 2) (oi := _) (v := ?_) (d := some 68) rfl (by kernel_rfl) (by kernel_rfl) (by kernel_rfl) (by kernel_rfl) (fun _ _ _ h => h) (Or.inl ⟨by rfl, ?_⟩) (by assumption) ?_
                  rotate_left
                  · (intro w hSw; (try dsimp only at hSw); go_simp <;> with_reducible rfl)
                  try simp only [Act.put, List.setIfInBounds_toArray, List.set_cons_zero, List.set_cons_succ]
                  refine takeT14s (i := 3) (oi := _) (v := ?_) (d := some 69) rfl (by kernel_rfl) (by kernel_rfl) (by kernel_rfl) (by kernel_rfl) (fun _ _ _ h => h) (Or.inl ⟨by rfl, ?_⟩) (by assumption) ?_
                  rotate_left
                  · (intro w hSw; (try dsimp only at hSw); go_simp <;> with_reducible rfl)
                  try simp only [Act.put, List.setIfInBounds_toArray, List.set_cons_zero, List.set_cons_succ]
                  refine takeT14s (i := 4) (oi := _) (v := ?_) (d := some 70) rfl (by kernel_rfl) (by kernel_rfl) (by kernel_rfl) (by kernel_rfl) (fun _ _ _ h => h) (Or.inl ⟨by rfl, ?_⟩) (by assumption) ?_
                  rotate_left
                  · (intro w hSw; (try dsimp only at hSw); go_simp <;> with_reducible rfl)
                  try simp only [Act.put, List.setIfInBounds_toArray, List.set_cons_zero, List.set_cons_succ]
                  refine takeT14s (i := 5) (oi := _) (v := ?_) (d := some 71) rfl (by kernel_rfl) (by kernel_rfl) (by kernel_rfl) (by kernel_rfl) (fun _ _ _ h => h) (Or.inl ⟨by rfl, ?_⟩) (by assumption) ?_
                  rotate_left
                  · (intro w hSw; (try dsimp only at hSw); go_simp <;> with_reducible rfl)
                  try simp only [Act.put, List.setIfInBounds_toArray, List.set_cons_zero, List.set_cons_succ]
                  refine takeT14s (i := 6) (oi := _) (v := ?_) (d := some 72) rfl (by kernel_rfl) (by kernel_rfl) (by kernel_rfl) (by kernel_rfl) (fun _ _ _ h => h) (Or.inl ⟨by rfl, ?_⟩) (by assumption) ?_
                  rotate_left
                  · (intro w hSw; (try dsimp only at hSw); go_simp <;> with_reducible rfl)
                  try simp only [Act.put, List.setIfInBounds_toArray, List.set_cons_zero, List.set_cons_succ]
                  refine takeT14s (i := 7) (oi := _) (v := ?_) (d := some 73) rfl (by kernel_rfl) (by kernel_rfl) (by kernel_rfl) (by kernel_rfl) (fun _ _ _ h => h) (Or.inl ⟨by rfl, ?_⟩) (by assumption) ?_
                  rotate_left
                  · (intro w hSw; (try dsimp only at hSw); go_simp <;> with_reducible rfl)
                  try simp only [Act.put, List.setIfInBounds_toArray, List.set_cons_zero, List.set_cons_succ]
                  refine takeT14s (i := 8) (oi := _) (v := ?_) (d := some 74) rfl (by kernel_rfl) (by kernel_rfl) (by kernel_rfl) (by kernel_rfl) (fun _ _ _ h => h) (Or.inl ⟨by rfl, ?_⟩) (by assumption) ?_
                  rotate_left
                  · (intro w hSw; (try dsimp only at hSw); go_simp <;> with_reducible rfl)
                  try simp only [Act.put, List.setIfInBounds_toArray, List.set_cons_zero, List.set_cons_succ]
                  refine wpAnyH_ready (rs := [9]) (by kernel_rfl) (by simp) ?_
                  refine AllReadyH.cons (o := _) rfl (fun K hK => ?_) AllReadyH.nil
                  go_simp
                  refine (HA1.out _ HWVd.out).mono ?_
                  rintro e w2 ⟨rfl, hb⟩
                  have HVw2 : Hid (Below V.heap.size V w2) := HV0.out.trans (hb.mono HV0.out.size)
                  clear hb
                  refine hK.out _ _ ?_ (fun hHeld => ?_)
                  · exact (HAX.out.later HVw2.out).1
                  clear hK K
                  try simp only [Act.put, List.setIfInBounds_toArray, List.set_cons_zero, List.set_cons_succ]
                  refine takeT14s (i := 10) (oi := _) (v := ?_) (d := some 76) rfl (by kernel_rfl) (by kernel_rfl) (by kernel_rfl) (by kernel_rfl) (fun _ _ _ h => h) (Or.inl ⟨by rfl, ?_⟩) (by assumption) ?_
                  rotate_left
                  · (intro w hSw; (try dsimp only at hSw); go_simp <;> with_reducible rfl)
                  try simp only [Act.put, List.setIfInBounds_toArray, List.set_cons_zero, List.set_cons_succ]
                  refine takeT14s (i := 11) (oi := _) (v := ?_) (d := some 77) rfl (by kernel_rfl) (by kernel_rfl) (by kernel_rfl) (by kernel_rfl) (fun _ _ _ h => h) (Or.inl ⟨by rfl, ?_⟩) (by assumption) ?_
                  rotate_left
                  · (intro w hSw; (try dsimp only at hSw); go_simp <;> with_reducible rfl)
                  try simp only [Act.put, List.setIfInBounds_toArray, List.set_cons_zero, List.set_cons_succ]
                  refine takeT14s (i := 12) (oi := _) (v := ?_) (d := some 78) rfl (by kernel_rfl) (by kernel_rfl) (by kernel_rfl) (by kernel_rfl) (fun _ _ _ h => h) (Or.inl ⟨by rfl, ?_⟩) (by assumption) ?_
                  rotate_left
                  · (intro w hSw; (try dsimp only at hSw); go_simp <;> with_reducible rfl)
                  try simp only [Act.put, List.setIfInBounds_toArray, List.set_cons_zero, List.set_cons_succ]
                  refine takeT14s (i := 13) (oi := _) (v := undef) (d := some 79) rfl (by kernel_rfl) (by kernel_rfl) (by kernel_rfl) (by kernel_rfl) (fun _ _ _ h => h) (Or.inr ⟨by rfl, rfl⟩) (by assumption) ?_
                  try simp only [Act.put, List.setIfInBounds_toArray, List.set_cons_zero, List.set_cons_succ]
                  refine takeT14s (i := 14) (oi := _) (v := undef) (d := some 80) rfl (by kernel_rfl) (by kernel_rfl) (by kernel_rfl) (by kernel_rfl) (fun _ _ _ h => h) (Or.inr ⟨by rfl, rfl⟩) (by assumption) ?_
                  try simp only [Act.put, List.setIfInBounds_toArray, List.set_cons_zero, List.set_cons_succ]
                  refine takeT14s (i := 15) (oi := _) (v := undef) (d := some 81) rfl (by kernel_rfl) (by kernel_rfl) (by kernel_rfl) (by kernel_rfl) (fun _ _ _ h => h) (Or.inr ⟨by rfl, rfl⟩) (by assumption) ?_
                  try simp only [Act.put, List.setIfInBounds_toArray, List.set_cons_zero, List.set_cons_succ]
                  refine takeT14s (i := 16) (oi := _) (v := undef) (d := some 82) rfl (by kernel_rfl) (by kernel_rfl) (by kernel_rfl) (by kernel_rfl) (fun _ _ _ h => h) (Or.inr ⟨by rfl, rfl⟩) (by assumption) ?_
                  try simp only [Act.put, List.setIfInBounds_toArray, List.set_cons_zero, List.set_cons_succ]
                  refine takeT14s (i := 17) (oi := _) (v := ?_) (d := some 83) rfl (by kernel_rfl) (by kernel_rfl) (by kernel_rfl) (by kernel_rfl) (fun _ _ _ h => h) (Or.inl ⟨by rfl, ?_⟩) (by assumption) ?_
                  rotate_left
                  · (intro w hSw; (try dsimp only at hSw); go_simp <;> with_reducible rfl)
                  try simp only [Act.put, List.setIfInBounds_toArray, List.set_cons_zero, List.set_cons_succ]
                  refine wpAnyH_done (by kernel_rfl) ?_ _
                  clear hHeld
                  go_wp2
                  go_roundw
                  case rel => exact ⟨j + 1, by omega, by go_num, by show X3 _ _ _ _ _; rw [HC2.out, HS.out]; exact HT.out.later HVw2.out, HWV.out.trans (HVw2.out.mono HWV.out.size)⟩
                  case measure => simp [intOf]; omega
              · have hhb : (x0 == (k : Int)) = false := by simpa using hh
                have HS : Hid (c2 = c1) := by show _ = _; rw [HSU.out, HCE.out, decide_eq_false hh]; rfl
                clear hh HSU HCE HA1 HA2
                go_wp2_with fail
                clear hV
                have HWVd : Hid (Below V0.heap.size V0 V.drew) := HWV.out.drew
                have HV0 : Hid (Below V.heap.size V V.drew) := (Below.refl _ _).drew
                refine wp_region_held_drew (S := (fun w' => w'.cell? ⟨wr.heap.size, 0, none⟩ = some (.int .i64 x0) ∧ w'.cell? ⟨wr.heap.size, 1, none⟩ = some (.int .i64 x1) ∧ w'.cell? ⟨wr.heap.size, 2, none⟩ = some (.int .i64 x2))) (by kernel_rfl) ?_ (fun hHeld => ?_)
                · exact (HAX.out.later HV0.out).1
                refine takeT14s (i := 0) (oi := _) (v := ?_) (d := some 66) rfl (by kernel_rfl) (by kernel_rfl) (by kernel_rfl) (by kernel_rfl) (fun _ _ _ h => h) (Or.inl ⟨by rfl, ?_⟩) (by assumption) ?_
                rotate_left
                · (intro w hSw; (try dsimp only at hSw); go_simp <;> with_reducible rfl)
                try simp only [Act.put, List.setIfInBounds_toArray, List.set_cons_zero, List.set_cons_succ]
                refine takeT14s (i := 1) (oi := _) (v := ?_) (d := some 67) rfl (by kernel_rfl) (by kernel_rfl) (by kernel_rfl) (by kernel_rfl) (fun _ _ _ h => h) (Or.inl ⟨by rfl, ?_⟩) (by assumption) ?_
                rotate_left
                · (intro w hSw; (try dsimp only at hSw); go_simp <;> with_reducible rfl)
                try simp only [Act.put, List.setIfInBounds_toArray, List.set_cons_zero, List.set_cons_succ]
                refine takeT14s (i := 2) (oi := _) (v := ?_) (d := some 68) rfl (by kernel_rfl) (by kernel_rfl) (by kernel_rfl) (by kernel_rfl) (fun _ _ _ h => h) (Or.inl ⟨by rfl, ?_⟩) (by assumption) ?_
                rotate_left
                · (intro w hSw; (try dsimp only at hSw); go_simp <;> with_reducible rfl)
                try simp only [Act.put, List.setIfInBounds_toArray, List.set_cons_zero, List.set_cons_succ]
                refine takeT14s (i := 3) (oi := _) (v := ?_) (d := some 69) rfl (by kernel_rfl) (by kernel_rfl) (by kernel_rfl) (by kernel_rfl) (fun _ _ _ h => h) (Or.inl ⟨by rfl, ?_⟩) (by assumption) ?_
                rotate_left
                · (intro w hSw; (try dsimp only at hSw); go_simp <;> with_reducible rfl)
                try simp only [Act.put, List.setIfInBounds_toArray, List.set_cons_zero, List.set_cons_succ]
                refine takeT14s (i := 4) (oi := _) (v := ?_) (d := some 70) rfl (by kernel_rfl) (by kernel_rfl) (by kernel_rfl) (by kernel_rfl) (fun _ _ _ h => h) (Or.inl ⟨by rfl, ?_⟩) (by assumption) ?_
                rotate_left
                · (intro w hSw; (try dsimp only at hSw); go_simp <;> with_reducible rfl)
                try simp only [Act.put, List.setIfInBounds_toArray, List.set_cons_zero, List.set_cons_succ]
                refine takeT14s (i := 5) (oi := _) (v := undef) (d := some 71) rfl (by kernel_rfl) (by kernel_rfl) (by kernel_rfl) (by kernel_rfl) (fun _ _ _ h => h) (Or.inr ⟨by rfl, rfl⟩) (by assumption) ?_
                try simp only [Act.put, List.setIfInBounds_toArray, List.set_cons_zero, List.set_cons_succ]
                refine takeT14s (i := 6) (oi := _) (v := undef) (d := some 72) rfl (by kernel_rfl) (by kernel_rfl) (by kernel_rfl) (by kernel_rfl) (fun _ _ _ h => h) (Or.inr ⟨by rfl, rfl⟩) (by assumption) ?_
                try simp only [Act.put, List.setIfInBounds_toArray, List.set_cons_zero, List.set_cons_succ]
                refine takeT14s (i := 7) (oi := _) (v := undef) (d := some 73) rfl (by kernel_rfl) (by kernel_rfl) (by kernel_rfl) (by kernel_rfl) (fun _ _ _ h => h) (Or.inr ⟨by rfl, rfl⟩) (by assumption) ?_
                try simp only [Act.put, List.setIfInBounds_toArray, List.set_cons_zero, List.set_cons_succ]
                refine takeT14s (i := 8) (oi := _) (v := undef) (d := some 74) rfl (by kernel_rfl) (by kernel_rfl) (by kernel_rfl) (by kernel_rfl) (fun _ _ _ h => h) (Or.inr ⟨by rfl, rfl⟩) (by assumption) ?_
                try simp only [Act.put, List.setIfInBounds_toArray, List.set_cons_zero, List.set_cons_succ]
                refine takeT14s (i := 9) (oi := _) (v := undef) (d := some 75) rfl (by kernel_rfl) (by kernel_rfl) (by kernel_rfl) (by kernel_rfl) (fun _ _ _ h => h) (Or.inr ⟨by rfl, rfl⟩) (by assumption) ?_
                try simp only [Act.put, List.setIfInBounds_toArray, List.set_cons_zero, List.set_cons_succ]
                refine takeT14s (i := 10) (oi := _) (v := undef) (d := some 76) rfl (by kernel_rfl) (by kernel_rfl) (by kernel_rfl) (by kernel_rfl) (fun _ _ _ h => h) (Or.inr ⟨by rfl, rfl⟩) (by assumption) ?_
                try simp only [Act.put, List.setIfInBounds_toArray, List.set_cons_zero, List.set_cons_succ]
                refine takeT14s (i := 11) (oi := _) (v := ?_) (d := some 77) rfl (by kernel_rfl) (by kernel_rfl) (by kernel_rfl) (by kernel_rfl) (fun _ _ _ h => h) (Or.inl ⟨by rfl, ?_⟩) (by assumption) ?_
                rotate_left
                · (intro w hSw; (try dsimp only at hSw); go_simp <;> with_reducible rfl)
                try simp only [Act.put, List.setIfInBounds_toArray, List.set_cons_zero, List.set_cons_succ]
                refine takeT14s (i := 12) (oi := _) (v := ?_) (d := some 78) rfl (by kernel_rfl) (by kernel_rfl) (by kernel_rfl) (by kernel_rfl) (fun _ _ _ h => h) (Or.inl ⟨by rfl, ?_⟩) (by assumption) ?_
                rotate_left
                · (intro w hSw; (try dsimp only at hSw); go_simp <;> with_reducible rfl)
                try simp only [Act.put, List.setIfInBounds_toArray, List.set_cons_zero, List.set_cons_succ]
                refine takeT14s (i := 13) (oi := _) (v := undef) (d := some 79) rfl (by kernel_rfl) (by kernel_rfl) (by kernel_rfl) (by kernel_rfl) (fun _ _ _ h => h) (Or.inr ⟨by rfl, rfl⟩) (by assumption) ?_
                try simp only [Act.put, List.setIfInBounds_toArray, List.set_cons_zero, List.set_cons_succ]
                refine takeT14s (i := 14) (oi := _) (v := undef) (d := some 80) rfl (by kernel_rfl) (by kernel_rfl) (by kernel_rfl) (by kernel_rfl) (fun _ _ _ h => h) (Or.inr ⟨by rfl, rfl⟩) (by assumption) ?_
                try simp only [Act.put, List.setIfInBounds_toArray, List.set_cons_zero, List.set_cons_succ]
                refine takeT14s (i := 15) (oi := _) (v := undef) (d := some 81) rfl (by kernel_rfl) (by kernel_rfl) (by kernel_rfl) (by kernel_rfl) (fun _ _ _ h => h) (Or.inr ⟨by rfl, rfl⟩) (by assumption) ?_
                try simp only [Act.put, List.setIfInBounds_toArray, List.set_cons_zero, List.set_cons_succ]
                refine takeT14s (i := 16) (oi := _) (v := undef) (d := some 82) rfl (by kernel_rfl) (by kernel_rfl) (by kernel_rfl) (by kernel_rfl) (fun _ _ _ h => h) (Or.inr ⟨by rfl, rfl⟩) (by assumption) ?_
                try simp only [Act.put, List.setIfInBounds_toArray, List.set_cons_zero, List.set_cons_succ]
                refine takeT14s (i := 17) (oi := _) (v := ?_) (d := some 83) rfl (by kernel_rfl) (by kernel_rfl) (by kernel_rfl) (by kernel_rfl) (fun _ _ _ h => h) (Or.inl ⟨by rfl, ?_⟩) (by assumption) ?_
                rotate_left
                · (intro w hSw; (try dsimp only at hSw); go_simp <;> with_reducible rfl)
                try simp only [Act.put, List.setIfInBounds_toArray, List.set_cons_zero, List.set_cons_succ]
                refine wpAnyH_done (by kernel_rfl) ?_ _
                clear hHeld
                go_wp2
                go_roundw
                case rel => exact ⟨j + 1, by omega, by go_num, by show X3 _ _ _ _ _; rw [HC2.out, HS.out]; exact HT.out.later HV0.out, HWV.out.trans (HV0.out.mono HWV.out.size)⟩
                case measure => simp [intOf]; omega
            · obtain rfl : nz = j := by omega
              have HCF : Hid ((credTo (k : Int) xs dl xs.length : Int) = (credTo (k : Int) xs dl nz : Int)) := by show _ = _; rw [HX.out]
              generalize ((credTo (k : Int) xs dl nz : Nat) : Int) = cf at hT HCF
              obtain ⟨⟨z0, z1, z2⟩, _⟩ := hT
              have bA := balloc wr (.cells #[.int .i64 (k : Int), .int .i64 cf, .int .i64 (q5 : Int)] 37)
              obtain ⟨v5, w5, r1, o5, g5, b5⟩ := appendU_run (wr.alloc (.cells #[.int .i64 (k : Int), .int .i64 cf, .int .i64 (q5 : Int)] 37)) w1.heap.size (.slice a9 k c9) out [((k : Int), cf, (q5 : Int))] (some ⟨wr.heap.size, 0, none⟩) 1 1 ((HO9.out.later hBi.out).later bA) (litU wr _ _ _) rfl (fun h => by cases h) (by rw [HLn.out]; omega) (by have h1 := HB9.out.size; have h2 := hBi.out.size; have h3 := bA.size; omega)
              have HO5 : Hid (OwnU w5 w1.heap.size v5 (out ++ [((k : Int), cf, (q5 : Int))])) := o5
              have HB5 : Hid (Below w1.heap.size w1 w5) := ((HB9.out.trans (hBi.out.mono HB9.out.size)).trans (bA.mono (by have h1 := HB9.out.size; have h2 := hBi.out.size; omega))).trans b5
              have HSu : Hid (tallyL (k + 1) f xs ls = out ++ [((k : Int), cf, (q5 : Int))]) := by show _ = _; rw [HSt.out, HCF.out, HDq.out]
              have hx : ¬ (nz : Int) < (nz : Int) := by omega
              clear bA o5 g5 b5 HSt HCF
              go_wp2_with (at_builtin; refine Lib.wpList_append_run _ rfl _ _ _ _ rfl _ _ rfl rfl _ _ (r1 _) ?_; clear r1)
              go_roundw
              case rel => exact ⟨k + 1, by omega, by go_num, by show OwnU _ _ _ _; rw [HSu.out]; exact HO5.out, HB5⟩
              case measure => simp [intOf]; omega
        · obtain rfl : N = k := by omega
          have hx : ¬ (N : Int) < (N : Int) := by omega
          obtain ⟨a9, c9, hv⟩ := hO.out.shape
          rw [HTQ.out] at hv
          subst hv
          have HO9 : Hid (OwnU wr w.heap.size (.slice a9 q c9) (tallyL N f xs ls)) := hO.out.mono HB1.out.size
          have HB9 : Hid (Below w.heap.size w wr) := HB1.out.trans (hB.out.mono HB1.out.size)
          clear hO hB HTQ
          go_wp2
          refine bodyPost_ret (v := .tuple #[.slice a9 q c9, .bool true]) (by simp [results, Tryz.results7, go_sem]; try rfl) rfl ?_
          exact ⟨a9, c9, rfl, HO9.out, HB9.out⟩

end Go.Proofs.YtleddlfojogdiaaGreat
