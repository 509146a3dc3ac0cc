/- Chapter 7: onions built, the specification. -/
import Derived.Test.YtnfoflijapbkdaaS7
import Derived.Test.YtnfoflijapbkdaaM7
import Derived.Deep.RegionHeld3
import Derived.Deep.RegionWith
import Derived.Deep.DeepCutAuto
import Derived.Deep.Light
namespace Go.Proofs.Ytnfoflijapbkdaa
set_option linter.unusedVariables false
set_option maxRecDepth 1000000
set_option linter.unusedSimpArgs false
open Go.RowKit


/-- Each hand's pad and hop. -/
def layersL (xs ys : List Int) : List (Bs × UInt8) := List.zipWith (fun k h => (padU k, UInt8.ofNat h.toNat)) xs ys
def buildG (xs ys : List Int) (s : ByteArray) : Bool := decide (1 ≤ xs.length ∧ xs.length ≤ 4) && (allIn 0 65535 xs && (decide (ys.length = xs.length) && (allIn 1 250 ys && decide (s.size < 16))))
def buildF (xs ys : List Int) (s : ByteArray) : ByteArray × Bool := if buildG xs ys s = true then (tx (buildB (layersL xs ys) (bl s)), true) else (ByteArray.empty, false)
theorem allIn_get {lo hi : Int} {xs : List Int} (h : allIn lo hi xs = true) {j : Nat} (hj : j < xs.length) : lo ≤ xs.getD j 0 ∧ xs.getD j 0 ≤ hi := by
  have := List.all_eq_true.1 h (xs[j]) (List.getElem_mem hj)
  simpa [inB, List.getD, hj] using this
theorem layers_length {xs ys : List Int} (h : ys.length = xs.length) : (layersL xs ys).length = xs.length := by simp [layersL, h]
theorem layers_drop {xs ys : List Int} (h : ys.length = xs.length) {j : Nat} (hj : j < xs.length) : (layersL xs ys).drop j = (padU (xs.getD j 0), UInt8.ofNat (ys.getD j 0).toNat) :: (layersL xs ys).drop (j + 1) := by
  rw [List.drop_eq_getElem_cons (by rw [layers_length h]; exact hj)]
  congr 1
  simp [layersL, List.getD, hj, show j < ys.length by omega]
theorem layers_pads {xs ys : List Int} (ha : allIn 0 65535 xs = true) : ∀ x ∈ layersL xs ys, x.1.length = 24 := by
  intro x hx
  unfold layersL at hx
  obtain ⟨i, hi, e⟩ := List.mem_iff_getElem.1 hx
  simp only [List.getElem_zipWith] at e
  rw [← e]
  simp only [List.length_zipWith] at hi
  have := allIn_get ha (j := i) (by omega)
  simp [List.getD, show i < xs.length by omega] at this
  exact padU_length (by unfold blockB; exact decide_eq_true this)

theorem Rd.get7 {w : World} {ao : Option Addr} {xs : List Int} (h : Rd w ao xs) {k : Nat} (hk : k < xs.length) : ∃ b o, ao = some ⟨b, o, none⟩ ∧ w.cell? ⟨b, o + k, none⟩ = some (.int .i64 (xs.getD k 0)) := by
  rcases h with rfl | ⟨b, o, rfl, hc⟩
  · simp at hk
  · exact ⟨b, o, rfl, hc k hk⟩
theorem tx_extract7 (l : Bs) (a b : Nat) : (tx l).extract a b = tx ((l.drop a).take (b - a)) := ByteArray.extract_mk l a b
theorem row_two (W : World) (a b : Nat) (ha : a < 256) (hb : b < 256) : RowB (W.alloc (.cells #[.int .u8 (a : Int), .int .u8 (b : Int)] 5)) W.heap.size [UInt8.ofNat a, UInt8.ofNat b] := by
  refine ⟨fun j hj => ?_, fun j hj => ?_⟩
  · match j, hj with
    | 0, _ => rw [World.cell?_alloc_mark]; show some _ = some (Value.int .u8 ((UInt8.ofNat a).toNat : Int)); rw [byte_of ha]; rfl
    | 1, _ => rw [World.cell?_alloc_mark]; show some _ = some (Value.int .u8 ((UInt8.ofNat b).toNat : Int)); rw [byte_of hb]; rfl
  · rw [World.frozen?_alloc_mark, decide_eq_false (show ¬ j < 0 by omega), Bool.and_false]

set_option maxHeartbeats 4000000 in
set_option maxRecDepth 100000 in
theorem specBuild_at (ao bo : Option Addr) (n c d : Nat) (s : ByteArray) (xs ys : List Int) (w : World) (hx : xs.length = n) (hy : ys.length = n) (h1 : 1 ≤ n) (h4 : n ≤ 4) (ha : allIn 0 65535 xs = true) (hh : allIn 1 250 ys = true) (hs : s.size < 16) (hr : Rd w ao xs) (hq : Rd w bo ys) :
    Calls Try.prog 15 #[.slice ao n c, .slice bo n d, .string s] w fun e w' => e = .returned (.tuple #[.string (tx (buildB (layersL xs ys) (bl s))), .bool true]) ∧ Below w.heap.size w w' := by
  obtain ⟨M, hmk, hrow⟩ := make_run 8 (by omega)
  have H1 : Hid (∀ wx, Calls Try.prog 50 #[.int .i64 n, .int .i64 1, .int .i64 4] wx fun e w' => e = .returned (.bool true) ∧ w' = wx) := fun wx => by
    have := l1In_c n 1 4 wx; rwa [decide_eq_true (by omega)] at this
  have H2 : Hid (∀ wx, wx = w → Calls Try.prog 51 #[.slice ao n c, .int .i64 0, .int .i64 65535] wx fun e w' => e = .returned (.bool true) ∧ w' = wx) := fun wx e => by
    subst e; have := l1All_c ao n c 0 65535 xs wx hx (by omega) hr; rwa [ha] at this
  have H3 : Hid (∀ wx, wx = w → Calls Try.prog 51 #[.slice bo n d, .int .i64 1, .int .i64 250] wx fun e w' => e = .returned (.bool true) ∧ w' = wx) := fun wx e => by
    subst e; have := l1All_c bo n d 1 250 ys wx hy (by omega) hq; rwa [hh] at this
  have H4 : Hid (∀ wx, Calls Try.prog 52 #[.string s] wx fun e w' => e = .returned (.bool true) ∧ w' = wx) := fun wx => by
    have := l7Body_c s wx (by omega); rwa [decide_eq_true hs] at this
  have HPB : Hid (∀ wx, Calls Try.prog 53 #[.string s] wx fun e w' => e = .returned (.string (tx (padB (bl s)))) ∧ Below wx.heap.size wx w') := fun wx => l7PadBody_c s wx hs
  have hnn : ((n : Int) != (n : Int)) = false := by simp
  have hmk8 : ∀ W : World, (Instr.makeSlice 22 (.int .i64 8) (.int .i64 8)).run Try.prog W = .ok (.slice (some ⟨W.heap.size, 0, none⟩) 8 8) (W.alloc (.cells M 5)) := hmk
  have hcva : ∀ W : World, (convert 22 9 (.slice (some ⟨W.heap.size, 0, none⟩) 8 8)).run Try.prog (W.alloc (.cells M 5)) = .ok (.string (tx (zeros 8))) (W.alloc (.cells M 5)) := fun W => (hrow W).text 8 8 (by simp [zeros])
  have hcvd : ∀ W : World, (convert 22 9 (.slice (some ⟨W.heap.size, 0, none⟩) 8 8)).run Try.prog (W.alloc (.cells M 5)).drew = .ok (.string (tx (zeros 8))) (W.alloc (.cells M 5)).drew := fun W => ((hrow W).later (Below.refl _ _).drew).text 8 8 (by simp [zeros])
  have HROW : Hid (∀ W : World, RowB (W.alloc (.cells M 5)) W.heap.size (zeros 8)) := hrow
  have HTXT : Hid (∀ (W : World) (g : Nat), RowB W g (zeros 8) → (convert 22 9 (.slice (some ⟨g, 0, none⟩) 8 8)).run Try.prog W = .ok (.string (tx (zeros 8))) W) := fun W g h => h.text 8 8 (by simp [zeros])
  have hst0 : tx (padB (bl s)) ++ tx (zeros 8) = tx (buildB [] (bl s)) := tx_app _ _
  have hsz1 : (tx (padB (bl s))).size = 16 := by rw [tx_size, padB_length (by rw [bl_length]; exact hs)]
  have hsz2 : (tx (zeros 8)).size = 8 := zeros_size 8
  have HX : Hid (xs.length = n) := hx
  have HY : Hid (ys.length = n) := hy
  have HR : Hid (Rd w ao xs) := hr
  have HQ : Hid (Rd w bo ys) := hq
  have HA : Hid (allIn 0 65535 xs = true) := ha
  have HH : Hid (allIn 1 250 ys = true) := hh
  have HBL : Hid ((bl s).length < 16) := by show _ < _; rw [bl_length]; exact hs
  have hadd : (tx (padB (bl s))).size + (tx (zeros 8)).size ≤ 9223372036854775807 := by omega
  generalize tx (padB (bl s)) = tp at HPB hst0 hadd
  have HST : Hid (tp ++ tx (zeros 8) = tx (buildB [] (bl s))) := hst0
  generalize tx (zeros 8) = tz at hcva hcvd hadd HST HTXT
  clear hx hy ha hh hs hr hq hmk hrow hst0 hsz1 hsz2
  go_enter Try.func15, Try.ntmps15
  go_upto_region 3 with (first | (go_at_call 50; refine (H1.out _).mono ?_; clear H1; rintro e w' ⟨rfl, hw⟩; subst w') | (go_at_call 51; have _t := H2; refine (H2.out _ rfl).mono ?_; clear H2; rintro e w' ⟨rfl, hw⟩; subst w') | (go_at_call 51; refine (H3.out _ rfl).mono ?_; clear H3; rintro e w' ⟨rfl, hw⟩; subst w') | (go_at_call 52; refine (H4.out _).mono ?_; clear H4; rintro e w' ⟨rfl, hw⟩; subst w'))
  go_cut [8] (fun uv wx => uv = .string (tp ++ tz) ∧ Hid (Below w.heap.size w wx))
  case first =>
    go_region_with (first | (go_at_call 53; refine (HPB.out _).mono ?_; rintro e W1 ⟨rfl, hb⟩; have HB1 : Hid (Below w.heap.size w W1) := (Below.trans (by repeat (first | exact Below.refl _ _ | refine Below.drew ?_ | refine Below.alloc ?_ (by first | omega | (simp; done) | (simp; omega)) _)) (hb.mono (by first | exact Nat.le_refl _ | (simp; done) | (simp; omega)))); try have hcb := HTXT.out _ _ (((HROW.out w).later (Below.refl _ _).drew).later hb)))
    all_goals go_wp2_with fail
    all_goals go_meet
    all_goals go_light
    all_goals exact ⟨rfl, (by show Below _ _ _; repeat (first | with_reducible exact HB1.out | refine Below.drew ?_ | refine Below.alloc ?_ (by first | exact HB1.out.size | omega | (simp; done) | (simp; omega)) _))⟩
  case rest =>
    obtain ⟨rfl, HB0⟩ := hcut
    obtain ⟨W0, rfl⟩ : ∃ W0 : World, W0 = wc := ⟨_, rfl⟩
    rw [HST.out]
    clear hcva hcvd hmk8 HPB HROW HTXT hadd HST
    go_wp2
    go_loopw [8, 9] (fun sv iv wr => ∃ (j : Nat) (cur : ByteArray), j ≤ n ∧ iv = .int .i64 ((j : Int) - 1) ∧ sv = .string cur ∧ Hid (cur = tx (buildB ((layersL xs ys).drop j) (bl s))) ∧ Hid (Below w.heap.size w wr)) (fun _ iv _ => (intOf iv + 1).toNat)
    case atStart => exact ⟨n, _, Nat.le_refl _, rfl, rfl, by show _ = _; rw [List.drop_of_length_le (by rw [layers_length (HY.out.trans HX.out.symm), HX.out]; exact Nat.le_refl _)], HB0⟩
    case round =>
      clear HB0
      obtain ⟨j, cur, hj, rfl, rfl, HC, hB⟩ := hrel
      by_cases h0 : j = 0
      · subst h0
        have hcur : cur = tx (buildB (layersL xs ys) (bl s)) := by rw [HC.out, List.drop_zero]
        have HCU : Hid (cur = tx (buildB (layersL xs ys) (bl s))) := hcur
        clear hcur
        go_wp2
        refine bodyPost_ret (v := .tuple #[.string cur, .bool true]) (by simp [results, Try.results15, go_sem]; try rfl) rfl ?_
        exact ⟨by rw [HCU.out], hB.out⟩
      · obtain ⟨i, rfl⟩ : ∃ i, j = i + 1 := ⟨j - 1, by omega⟩
        have hij : ((i + 1 : Nat) : Int) - 1 = (i : Int) := by omega
        rw [hij]
        have hix : i < xs.length := by rw [HX.out]; omega
        have hiy : i < ys.length := by rw [HY.out]; omega
        obtain ⟨b1, o1, rfl, g1⟩ := Rd.get7 (HR.out.later hB.out) hix
        obtain ⟨b2, o2, rfl, g2⟩ := Rd.get7 (HQ.out.later hB.out) hiy
        have hkey := allIn_get HA.out hix
        have hhop := allIn_get HH.out hiy
        have HD := layers_drop (HY.out.trans HX.out.symm) hix
        obtain ⟨l, hl⟩ : ∃ l, l = buildB ((layersL xs ys).drop (i + 1)) (bl s) := ⟨_, rfl⟩
        have hll : l.length = 24 := by rw [hl]; exact buildB_length HBL.out _ (fun x hx => layers_pads HA.out x (List.mem_of_mem_drop hx))
        have HN : Hid (tx (putB (padU (xs.getD i 0)) (UInt8.ofNat (ys.getD i 0).toNat) l) = tx (buildB ((layersL xs ys).drop i) (bl s))) := by show _ = _; rw [HD, buildB, ← hl]
        have hcl : cur = tx l := by rw [HC.out, ← hl]
        generalize xs.getD i 0 = key at g1 hkey HN
        generalize ys.getD i 0 = hop at g2 hhop HN
        obtain ⟨H, rfl⟩ : ∃ H : Nat, hop = H := ⟨hop.toNat, by omega⟩
        rw [Int.toNat_natCast] at HN
        have hbk : blockB key = true := by unfold blockB; exact decide_eq_true hkey
        have e22 := tx_extract7 l 0 22
        have e16 := tx_extract7 (l.take 22) 0 16
        rw [List.drop_zero] at e22 e16
        rw [List.take_take, show min (16 - 0) 22 = 16 from rfl] at e16
        simp only [show 22 - 0 = 22 from rfl] at e22
        rw [← hcl] at e22
        have HCK : Hid (∀ wx, Calls Try.prog 54 #[.string (tx (l.take 16))] wx fun e w' => e = .returned (.int .i64 (chk (l.take 16) : Nat)) ∧ w' = wx) := fun wx => by
          have := l7Check_c (tx (l.take 16)) wx (by rw [tx_size, List.length_take]; omega)
          rwa [bl_tx] at this
        have hC := chk_lt (l.take 16)
        have hr2 : ∀ W : World, RowB (W.alloc (.cells #[.int .u8 (H : Int), .int .u8 ((chk (l.take 16) : Nat) : Int)] 5)) W.heap.size [UInt8.ofNat H, UInt8.ofNat (chk (l.take 16))] := fun W => row_two W H (chk (l.take 16)) (by omega) (by omega)
        have hcv := fun W => (hr2 W).text 2 2 rfl
        have hcvd := fun W => ((hr2 W).later (Below.refl _ _).drew).text 2 2 rfl
        have happ : tx [UInt8.ofNat H, UInt8.ofNat (chk (l.take 16))] ++ tx (l.take 22) = tx (UInt8.ofNat H :: UInt8.ofNat (chk (l.take 16)) :: l.take 22) := tx_app _ _
        have HXR : Hid (∀ wx, Calls Try.prog 55 #[.string (tx (UInt8.ofNat H :: UInt8.ofNat (chk (l.take 16)) :: l.take 22)), .string (padK key 24)] wx fun e w' => e = .returned (.string (tx (putB (padU key) (UInt8.ofNat H) l))) ∧ Below wx.heap.size wx w') := fun wx => l7Xor_c _ (padK key 24) wx (by rw [padK_size hbk (by omega) (by omega), tx_size]; simp [hll]) (by rw [tx_size]; simp [hll])
        have HPD : Hid (∀ wx, Calls Try.prog 56 #[.int .i64 key, .int .i64 24] wx fun e w' => e = .returned (.string (padK key 24)) ∧ Below wx.heap.size wx w') := fun wx => l7Pad_c key 24 wx hbk (by omega) (by omega)
        have z1 : cur.size = 24 := by rw [hcl, tx_size, hll]
        have z2 : (tx (l.take 22)).size = 22 := by rw [tx_size, List.length_take]; omega
        have z3 : (tx [UInt8.ofNat H, UInt8.ofNat (chk (l.take 16))]).size = 2 := by rw [tx_size]; rfl
        generalize chk (l.take 16) = C at *
        generalize tx [UInt8.ofNat H, UInt8.ofNat C] = t2 at *
        generalize tx (UInt8.ofNat H :: UInt8.ofNat C :: l.take 22) = t24 at *
        generalize tx (l.take 22) = t22 at *
        generalize tx (l.take 16) = t16 at *
        generalize tx (putB (padU key) (UInt8.ofNat H) l) = tn at *
        generalize padK key 24 = pk at *
        have y1 : (22 : Int) ≤ (cur.size : Int) := by omega
        have y2 : (16 : Int) ≤ (t22.size : Int) := by omega
        have y3 : t2.size + t22.size ≤ 9223372036854775807 := by omega
        have p1 : (H : Int) % 256 = (H : Int) := by omega
        have p2 : (C : Int) % 256 = (C : Int) := by omega
        have p3 : IntKind.u8.wrap (H : Int) = (H : Int) := by first | (rw [IntKind.wrap_u8]; omega) | (simp [IntKind.wrap]; omega)
        have p4 : IntKind.u8.wrap (C : Int) = (C : Int) := by first | (rw [IntKind.wrap_u8]; omega) | (simp [IntKind.wrap]; omega)
        have i1 : (0 : Int) ≤ (i : Int) := by omega
        have i2 : (i : Int) < (n : Int) := by omega
        have HG1 : Hid (∀ wx, Below wr.heap.size wr wx → wx.cell? ⟨b1, o1 + i, none⟩ = some (.int .i64 key)) := fun wx h => cell_keep (S := 0) h g1
        have HAP : Hid (t2 ++ t22 = t24) := happ
        clear hll hcl hl HD HC happ hix hiy hbk z1 z2 z3 hr2 h0 hkey hhop hij hC
        go_upto_region 8 with fail
        go_cut [8] from 44 to 69 (fun uv wx => uv = .string t24 ∧ Hid (Below wr.heap.size wr wx))
        case first =>
          go_region_with (first | (go_at_call 54; refine (HCK.out _).mono ?_; rintro e w' ⟨rfl, hw⟩; subst w'))
          all_goals go_wp2_with fail
          all_goals go_meet
          all_goals go_light
          all_goals exact ⟨by rw [HAP.out], (by show Below _ _ _; repeat (first | exact Below.refl _ _ | refine Below.drew ?_ | refine Below.alloc ?_ (by first | exact Nat.le_refl _ | omega | (simp; done) | (simp; omega)) _))⟩
        case rest =>
          obtain ⟨rfl, HB1⟩ := hcut
          obtain ⟨W1, rfl⟩ : ∃ W1 : World, W1 = wc := ⟨_, rfl⟩
          have g1' := HG1.out _ HB1.out
          have HB2 : Hid (Below w.heap.size w W1) := hB.out.trans (HB1.out.mono hB.out.size)
          clear g1 g2 hcv hcvd HB1 hB HCK HG1
          go_wp2_with fail
          refine (HPD.out _).mono ?_
          rintro e W2 ⟨rfl, hb⟩
          have HB3 : Hid (Below w.heap.size w W2) := HB2.out.trans (hb.mono HB2.out.size)
          clear hb HB2 HPD g1'
          go_wp2_with fail
          refine (HXR.out _).mono ?_
          rintro e W3 ⟨rfl, hb⟩
          have HB4 : Hid (Below w.heap.size w W3) := HB3.out.trans (hb.mono HB3.out.size)
          clear hb HB3 HXR
          go_wp2
          go_roundw
          case rel => exact ⟨i, tn, by omega, by go_num, rfl, HN, HB4⟩
          case measure => simp [intOf]

theorem buildF_no {xs ys : List Int} {s : ByteArray} (h : buildG xs ys s = false) : buildF xs ys s = (ByteArray.empty, false) := by
  unfold buildF; rw [h]; rfl
theorem buildF_yes {xs ys : List Int} {s : ByteArray} (h : buildG xs ys s = true) : buildF xs ys s = (tx (buildB (layersL xs ys) (bl s)), true) := by
  unfold buildF; rw [if_pos h]

set_option maxHeartbeats 1000000 in
theorem specBuild_c (ao : Option Addr) (n c : Nat) (bo : Option Addr) (m d : Nat) (s : ByteArray) (xs ys : List Int) (w : World) (hx : xs.length = n) (hy : ys.length = m) (hn : n ≤ 17592186044416) (hm : m ≤ 17592186044416) (hz : s.size ≤ 17592186044416) (hr : Rd w ao xs) (hq : Rd w bo ys) (t : ByteArray) (fb : Bool) (hF : buildF xs ys s = (t, fb)) :
    Calls Try.prog 15 #[.slice ao n c, .slice bo m d, .string s] w fun e w' => e = .returned (.tuple #[.string t, .bool fb]) ∧ Below w.heap.size w w' := by
  have H1 : Hid (∀ wx, Calls Try.prog 50 #[.int .i64 n, .int .i64 1, .int .i64 4] wx fun e w' => e = .returned (.bool (decide (1 ≤ (n : Int) ∧ (n : Int) ≤ 4))) ∧ w' = wx) := fun wx => l1In_c n 1 4 wx
  have H2 : Hid (∀ wx, wx = w → Calls Try.prog 51 #[.slice ao n c, .int .i64 0, .int .i64 65535] wx fun e w' => e = .returned (.bool (allIn 0 65535 xs)) ∧ w' = wx) := fun wx e => by
    subst e; exact l1All_c ao n c 0 65535 xs wx hx hn hr
  have H3 : Hid (∀ wx, wx = w → Calls Try.prog 51 #[.slice bo m d, .int .i64 1, .int .i64 250] wx fun e w' => e = .returned (.bool (allIn 1 250 ys)) ∧ w' = wx) := fun wx e => by
    subst e; exact l1All_c bo m d 1 250 ys wx hy hm hq
  have H4 : Hid (∀ wx, Calls Try.prog 52 #[.string s] wx fun e w' => e = .returned (.bool (decide (s.size < 16))) ∧ w' = wx) := fun wx => l7Body_c s wx hz
  by_cases h1 : 1 ≤ (n : Int) ∧ (n : Int) ≤ 4
  · rw [decide_eq_true h1] at H1
    cases h2 : allIn 0 65535 xs with
    | false =>
      rw [h2] at H2
      have hG : buildG xs ys s = false := by unfold buildG; rw [h2]; simp
      rw [buildF_no hG] at hF
      simp only [Prod.mk.injEq] at hF
      obtain ⟨rfl, rfl⟩ := hF
      clear hG hr hq hx hy h1 h2
      go_enter Try.func15, Try.ntmps15
      go_wp2_with (first | (go_at_call 50; refine (H1.out _).mono ?_; clear H1; rintro e w' ⟨rfl, hw⟩; subst w') | (go_at_call 51; have _t := H2; refine (H2.out _ rfl).mono ?_; clear H2; rintro e w' ⟨rfl, hw⟩; subst w'))
      refine bodyPost_ret (v := .tuple #[.string ByteArray.empty, .bool false]) (by simp [results, Try.results15, go_sem]; try rfl) rfl ?_
      exact ⟨rfl, Below.refl _ _⟩
    | true =>
      rw [h2] at H2
      by_cases h3 : m = n
      · have i3 : ((m : Int) != (n : Int)) = false := by rw [bne_eq_false_iff_eq]; omega
        cases h4 : allIn 1 250 ys with
        | false =>
          rw [h4] at H3
          have hG : buildG xs ys s = false := by unfold buildG; rw [h4]; simp
          rw [buildF_no hG] at hF
          simp only [Prod.mk.injEq] at hF
          obtain ⟨rfl, rfl⟩ := hF
          clear hG hr hq hx hy h1 h2 h3 h4
          go_enter Try.func15, Try.ntmps15
          go_wp2_with (first | (go_at_call 50; refine (H1.out _).mono ?_; clear H1; rintro e w' ⟨rfl, hw⟩; subst w') | (go_at_call 51; have _t := H2; refine (H2.out _ rfl).mono ?_; clear H2; rintro e w' ⟨rfl, hw⟩; subst w') | (go_at_call 51; refine (H3.out _ rfl).mono ?_; clear H3; rintro e w' ⟨rfl, hw⟩; subst w'))
          refine bodyPost_ret (v := .tuple #[.string ByteArray.empty, .bool false]) (by simp [results, Try.results15, go_sem]; try rfl) rfl ?_
          exact ⟨rfl, Below.refl _ _⟩
        | true =>
          rw [h4] at H3
          by_cases h5 : s.size < 16
          · have hG : buildG xs ys s = true := by unfold buildG; rw [h2, h4, hx, hy, decide_eq_true h5, decide_eq_true h3, decide_eq_true (by omega)]; rfl
            rw [buildF_yes hG] at hF
            simp only [Prod.mk.injEq] at hF
            obtain ⟨rfl, rfl⟩ := hF
            subst h3
            exact specBuild_at ao bo m c d s xs ys w hx hy (by omega) (by omega) h2 h4 h5 hr hq
          · rw [decide_eq_false h5] at H4
            have hG : buildG xs ys s = false := by unfold buildG; rw [decide_eq_false h5]; simp
            rw [buildF_no hG] at hF
            simp only [Prod.mk.injEq] at hF
            obtain ⟨rfl, rfl⟩ := hF
            clear hG hr hq hx hy h1 h2 h3 h4 h5
            go_enter Try.func15, Try.ntmps15
            go_wp2_with (first | (go_at_call 50; refine (H1.out _).mono ?_; clear H1; rintro e w' ⟨rfl, hw⟩; subst w') | (go_at_call 51; have _t := H2; refine (H2.out _ rfl).mono ?_; clear H2; rintro e w' ⟨rfl, hw⟩; subst w') | (go_at_call 51; refine (H3.out _ rfl).mono ?_; clear H3; rintro e w' ⟨rfl, hw⟩; subst w') | (go_at_call 52; refine (H4.out _).mono ?_; clear H4; rintro e w' ⟨rfl, hw⟩; subst w'))
            refine bodyPost_ret (v := .tuple #[.string ByteArray.empty, .bool false]) (by simp [results, Try.results15, go_sem]; try rfl) rfl ?_
            exact ⟨rfl, Below.refl _ _⟩
      · have i3 : ((m : Int) != (n : Int)) = true := by rw [bne_iff_ne]; omega
        have hG : buildG xs ys s = false := by unfold buildG; rw [hx, hy, decide_eq_false h3]; simp
        rw [buildF_no hG] at hF
        simp only [Prod.mk.injEq] at hF
        obtain ⟨rfl, rfl⟩ := hF
        clear hG hr hq hx hy h1 h2 h3
        go_enter Try.func15, Try.ntmps15
        go_wp2_with (first | (go_at_call 50; refine (H1.out _).mono ?_; clear H1; rintro e w' ⟨rfl, hw⟩; subst w') | (go_at_call 51; have _t := H2; refine (H2.out _ rfl).mono ?_; clear H2; rintro e w' ⟨rfl, hw⟩; subst w'))
        refine bodyPost_ret (v := .tuple #[.string ByteArray.empty, .bool false]) (by simp [results, Try.results15, go_sem]; try rfl) rfl ?_
        exact ⟨rfl, Below.refl _ _⟩
  · rw [decide_eq_false h1] at H1
    have hG : buildG xs ys s = false := by unfold buildG; rw [hx, decide_eq_false (show ¬ (1 ≤ n ∧ n ≤ 4) by omega)]; simp
    rw [buildF_no hG] at hF
    simp only [Prod.mk.injEq] at hF
    obtain ⟨rfl, rfl⟩ := hF
    clear hG hr hq hx hy h1
    go_enter Try.func15, Try.ntmps15
    go_wp2_with (first | (go_at_call 50; refine (H1.out _).mono ?_; clear H1; rintro e w' ⟨rfl, hw⟩; subst w'))
    refine bodyPost_ret (v := .tuple #[.string ByteArray.empty, .bool false]) (by simp [results, Try.results15, go_sem]; try rfl) rfl ?_
    exact ⟨rfl, Below.refl _ _⟩

end Go.Proofs.Ytnfoflijapbkdaa
