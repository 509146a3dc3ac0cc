/- Chapter 13: PlayBoard of the specification. -/
import Derived.Test.YtaokmjbhgkfnfaaRG13q
namespace Go.Proofs.Ytaokmjbhgkfnfaa
set_option linter.unusedVariables false
set_option maxRecDepth 1000000
set_option linter.unusedSimpArgs false
open Go.RowKit

set_option maxHeartbeats 4000000 in
theorem specPlay_no1 (f0 : Int) (pa : Option Addr) (pn pc : Nat) (lo : Option Addr) (n lc : Nat) (qi : List Int) (l : List (Int × Int × Int)) (w : World) (hp : qi.length = pn) (hpn : pn ≤ 1048576) (hx : l.length = n) (hn0 : n ≤ 1048576) (hrl : Rd w pa qi) (hz : pa = none → pn = 0 ∧ pc = 0) (hrt : RdT w lo l) (hc : couB f0 qi = false) :
  Calls Try.prog 14 #[.int .i64 f0, .slice pa pn pc, .slice lo n lc] w fun r w' => PbOk r w w' (pbV f0 qi l) (pbOk f0 qi l.length) := by
 have qN := fun wx (h : Rd wx pa qi) => specNew_c f0 pa pn pc qi wx hp hpn h hz
 unfold NewOk at qN
 have HV : Hid (pbOk f0 qi l.length = false ∧ pbV f0 qi l = (zeroBd, [])) := by
  have h : pbOk f0 qi l.length = false := by unfold pbOk; rw [hc]; rfl
  exact ⟨h, by unfold pbV; rw [h]; rfl⟩
 obtain ⟨nf, hn1⟩ : ∃ n, (newV f0 qi).f = n := ⟨_, rfl⟩
 obtain ⟨ne, hn2⟩ : ∃ n, (newV f0 qi).e = n := ⟨_, rfl⟩
 obtain ⟨ns, hn3⟩ : ∃ n, (newV f0 qi).sg.length = n := ⟨_, rfl⟩
 obtain ⟨nl, hn4⟩ : ∃ n, (newV f0 qi).li.length = n := ⟨_, rfl⟩
 obtain ⟨nt, hn5⟩ : ∃ n, (newV f0 qi).ls.length = n := ⟨_, rfl⟩
 rw [hn1, hn2, hn3, hn4, hn5, hc] at qN
 clear hn1 hn2 hn3 hn4 hn5 hc hp hz hx
 have HB_0 : Hid (Below w.heap.size w w) := Below.refl _ _
 have RL_0 : Hid (Rd w pa qi) := hrl
 have RT_0 : Hid (RdT w lo l) := hrt
 clear hrl hrt
 have hHB := HB_0.out.alloc HB_0.out.size (.cells #[.int .i64 0, .int .i64 0, .slice none 0 0, .slice none 0 0, .slice none 0 0] 29)
 have hRL := RL_0.out.later (balloc w (.cells #[.int .i64 0, .int .i64 0, .slice none 0 0, .slice none 0 0, .slice none 0 0] 29))
 have hRT := RT_0.out.later (balloc w (.cells #[.int .i64 0, .int .i64 0, .slice none 0 0, .slice none 0 0, .slice none 0 0] 29))
 have hR := x5_new w (.int .i64 0) (.int .i64 0) (.slice none 0 0) (.slice none 0 0) (.slice none 0 0) 29 w.heap.size rfl
 have hz : (w.alloc (.cells #[.int .i64 0, .int .i64 0, .slice none 0 0, .slice none 0 0, .slice none 0 0] 29)).heap.size = w.heap.size + 1 := by simp
 obtain ⟨w1, hV1⟩ : ∃ V, w.alloc (.cells #[.int .i64 0, .int .i64 0, .slice none 0 0, .slice none 0 0, .slice none 0 0] 29) = V := ⟨_, rfl⟩
 rw [hV1] at hHB hRL hRT hR hz
 have HB_1 : Hid (Below w.heap.size w w1) := hHB
 have RL_1 : Hid (Rd w1 pa qi) := hRL
 have RT_1 : Hid (RdT w1 lo l) := hRT
 have R_1 : Hid (X5 w1 w.heap.size (.int .i64 0) (.int .i64 0) (.slice none 0 0) (.slice none 0 0) (.slice none 0 0)) := hR
 have z1 : w.heap.size + 1 ≤ w1.heap.size := by omega
 clear HB_0 RL_0 RT_0 hHB hRL hRT hR hz
 go_enter Try.func14, Try.ntmps14
 go_wp2_with fail
 clear hV1
 refine (qN _ RL_1.out).mono ?_
 rintro e w2 ⟨sa1, sc1, la1, lc1, ta1, tc1, rfl, ho, hb⟩
 have hB : Below w1.heap.size w1 w2 := hb
 have HB_2 : Hid (Below w.heap.size w w2) := HB_1.out.trans (hB.mono HB_1.out.size)
 have RL_2 : Hid (Rd w2 pa qi) := RL_1.out.later hB
 have RT_2 : Hid (RdT w2 lo l) := RT_1.out.later hB
 have R_2 : Hid (X5 w2 w.heap.size (.int .i64 0) (.int .i64 0) (.slice none 0 0) (.slice none 0 0) (.slice none 0 0)) := R_1.out.later hB
 have z2 : w1.heap.size ≤ w2.heap.size := hB.size
 have B0_2 : Hid (OwnBd w2 w1.heap.size w2.heap.size (.slice sa1 ns sc1) (.slice la1 nl lc1) (.slice ta1 nt tc1) (newV f0 qi)) := ho
 clear hb hB HB_1 RL_1 RT_1 R_1 ho
 have hHB := HB_2.out.alloc HB_2.out.size (.cells #[.int .i64 nf, .int .i64 ne, .slice sa1 ns sc1, .slice la1 nl lc1, .slice ta1 nt tc1] 29)
 have hRL := RL_2.out.later (balloc w2 (.cells #[.int .i64 nf, .int .i64 ne, .slice sa1 ns sc1, .slice la1 nl lc1, .slice ta1 nt tc1] 29))
 have hRT := RT_2.out.later (balloc w2 (.cells #[.int .i64 nf, .int .i64 ne, .slice sa1 ns sc1, .slice la1 nl lc1, .slice ta1 nt tc1] 29))
 have hR := R_2.out.later (balloc w2 (.cells #[.int .i64 nf, .int .i64 ne, .slice sa1 ns sc1, .slice la1 nl lc1, .slice ta1 nt tc1] 29))
 have hB0 := B0_2.out.later (balloc w2 (.cells #[.int .i64 nf, .int .i64 ne, .slice sa1 ns sc1, .slice la1 nl lc1, .slice ta1 nt tc1] 29))
 have hN := x5_new w2 (.int .i64 nf) (.int .i64 ne) (.slice sa1 ns sc1) (.slice la1 nl lc1) (.slice ta1 nt tc1) 29 w2.heap.size rfl
 have hz : (w2.alloc (.cells #[.int .i64 nf, .int .i64 ne, .slice sa1 ns sc1, .slice la1 nl lc1, .slice ta1 nt tc1] 29)).heap.size = w2.heap.size + 1 := by simp
 obtain ⟨w3, hV3⟩ : ∃ V, w2.alloc (.cells #[.int .i64 nf, .int .i64 ne, .slice sa1 ns sc1, .slice la1 nl lc1, .slice ta1 nt tc1] 29) = V := ⟨_, rfl⟩
 rw [hV3] at hHB hRL hRT hR hB0 hN hz
 have HB_3 : Hid (Below w.heap.size w w3) := hHB
 have RL_3 : Hid (Rd w3 pa qi) := hRL
 have RT_3 : Hid (RdT w3 lo l) := hRT
 have R_3 : Hid (X5 w3 w.heap.size (.int .i64 0) (.int .i64 0) (.slice none 0 0) (.slice none 0 0) (.slice none 0 0)) := hR
 have B0_3 : Hid (OwnBd w3 w1.heap.size w2.heap.size (.slice sa1 ns sc1) (.slice la1 nl lc1) (.slice ta1 nt tc1) (newV f0 qi)) := hB0
 have N_3 : Hid (X5 w3 w2.heap.size (.int .i64 nf) (.int .i64 ne) (.slice sa1 ns sc1) (.slice la1 nl lc1) (.slice ta1 nt tc1)) := hN
 have z3 : w2.heap.size + 1 ≤ w3.heap.size := by omega
 clear HB_2 RL_2 RT_2 R_2 B0_2 hHB hRL hRT hR hB0 hN hz
 have hZF := (((((R_3.out.set0 (.int .i64 0)).set1 (.int .i64 0)).set2 (.slice none 0 0)).set3 (.slice none 0 0)).set4 (.slice none 0 0))
 have hBF : Below w.heap.size w (((((w3.setCell ⟨w.heap.size, 0, none⟩ (.int .i64 0)).setCell ⟨w.heap.size, 1, none⟩ (.int .i64 0)).setCell ⟨w.heap.size, 2, none⟩ (.slice none 0 0)).setCell ⟨w.heap.size, 3, none⟩ (.slice none 0 0)).setCell ⟨w.heap.size, 4, none⟩ (.slice none 0 0)) := (((((HB_3.out.setCell (by show w.heap.size ≤ w.heap.size; omega) _).setCell (by show w.heap.size ≤ w.heap.size; omega) _).setCell (by show w.heap.size ≤ w.heap.size; omega) _).setCell (by show w.heap.size ≤ w.heap.size; omega) _).setCell (by show w.heap.size ≤ w.heap.size; omega) _)
 have hszF : (((((w3.setCell ⟨w.heap.size, 0, none⟩ (.int .i64 0)).setCell ⟨w.heap.size, 1, none⟩ (.int .i64 0)).setCell ⟨w.heap.size, 2, none⟩ (.slice none 0 0)).setCell ⟨w.heap.size, 3, none⟩ (.slice none 0 0)).setCell ⟨w.heap.size, 4, none⟩ (.slice none 0 0)).heap.size = w3.heap.size := by simp
 obtain ⟨⟨y0, y1, y2, y3, y4⟩, yf⟩ := id (R_3.out)
 have yf0 := yf 0
 have yf1 := yf 1
 have yf2 := yf 2
 have yf3 := yf 3
 have yf4 := yf 4
 obtain ⟨FW, hFW⟩ : ∃ F, (((((w3.setCell ⟨w.heap.size, 0, none⟩ (.int .i64 0)).setCell ⟨w.heap.size, 1, none⟩ (.int .i64 0)).setCell ⟨w.heap.size, 2, none⟩ (.slice none 0 0)).setCell ⟨w.heap.size, 3, none⟩ (.slice none 0 0)).setCell ⟨w.heap.size, 4, none⟩ (.slice none 0 0)) = F := ⟨_, rfl⟩
 rw [hFW] at hZF hBF hszF
 obtain ⟨⟨t0, t1, t2, t3, t4⟩, _⟩ := hZF
 have HBF : Hid (Below w.heap.size w FW) := hBF
 have HSF : Hid (FW.heap.size = w3.heap.size) := hszF
 clear hBF yf hszF
 go_wp2
 clear hV3
 refine bodyPost_ret (v := .tuple #[.agg #[.int .i64 0, .int .i64 0, .slice none 0 0, .slice none 0 0, .slice none 0 0], .slice none 0 0, .bool false]) (by simp [results, Try.results14, go_sem, t0, t1, t2, t3, t4]; try rfl) rfl ?_
 exact ⟨none, 0, none, 0, none, 0, none, 0, by rw [HV.out.1, HV.out.2]; rfl, by rw [HV.out.2]; exact zeroOwn _ _ _, by rw [HV.out.2]; exact OwnB.nilq _ _, HBF.out⟩

set_option maxHeartbeats 4000000 in
theorem specPlay_no2 (f0 : Int) (pa : Option Addr) (pn pc : Nat) (lo : Option Addr) (n lc : Nat) (qi : List Int) (l : List (Int × Int × Int)) (w : World) (hp : qi.length = pn) (hpn : pn ≤ 1048576) (hx : l.length = n) (hn0 : n ≤ 1048576) (hrl : Rd w pa qi) (hz : pa = none → pn = 0 ∧ pc = 0) (hrt : RdT w lo l) (hc : couB f0 qi = true) (hn : 60 < n) :
  Calls Try.prog 14 #[.int .i64 f0, .slice pa pn pc, .slice lo n lc] w fun r w' => PbOk r w w' (pbV f0 qi l) (pbOk f0 qi l.length) := by
 have qN := fun wx (h : Rd wx pa qi) => specNew_c f0 pa pn pc qi wx hp hpn h hz
 unfold NewOk at qN
 have HV : Hid (pbOk f0 qi l.length = false ∧ pbV f0 qi l = (zeroBd, [])) := by
  have h : pbOk f0 qi l.length = false := by unfold pbOk; rw [hc, hx]; simp; omega
  exact ⟨h, by unfold pbV; rw [h]; rfl⟩
 obtain ⟨nf, hn1⟩ : ∃ n, (newV f0 qi).f = n := ⟨_, rfl⟩
 obtain ⟨ne, hn2⟩ : ∃ n, (newV f0 qi).e = n := ⟨_, rfl⟩
 obtain ⟨ns, hn3⟩ : ∃ n, (newV f0 qi).sg.length = n := ⟨_, rfl⟩
 obtain ⟨nl, hn4⟩ : ∃ n, (newV f0 qi).li.length = n := ⟨_, rfl⟩
 obtain ⟨nt, hn5⟩ : ∃ n, (newV f0 qi).ls.length = n := ⟨_, rfl⟩
 rw [hn1, hn2, hn3, hn4, hn5, hc] at qN
 have hn6 : (60 : Int) < (n : Int) := by omega
 clear hn1 hn2 hn3 hn4 hn5 hc hp hz hx
 have HB_0 : Hid (Below w.heap.size w w) := Below.refl _ _
 have RL_0 : Hid (Rd w pa qi) := hrl
 have RT_0 : Hid (RdT w lo l) := hrt
 clear hrl hrt
 have hHB := HB_0.out.alloc HB_0.out.size (.cells #[.int .i64 0, .int .i64 0, .slice none 0 0, .slice none 0 0, .slice none 0 0] 29)
 have hRL := RL_0.out.later (balloc w (.cells #[.int .i64 0, .int .i64 0, .slice none 0 0, .slice none 0 0, .slice none 0 0] 29))
 have hRT := RT_0.out.later (balloc w (.cells #[.int .i64 0, .int .i64 0, .slice none 0 0, .slice none 0 0, .slice none 0 0] 29))
 have hR := x5_new w (.int .i64 0) (.int .i64 0) (.slice none 0 0) (.slice none 0 0) (.slice none 0 0) 29 w.heap.size rfl
 have hz : (w.alloc (.cells #[.int .i64 0, .int .i64 0, .slice none 0 0, .slice none 0 0, .slice none 0 0] 29)).heap.size = w.heap.size + 1 := by simp
 obtain ⟨w1, hV1⟩ : ∃ V, w.alloc (.cells #[.int .i64 0, .int .i64 0, .slice none 0 0, .slice none 0 0, .slice none 0 0] 29) = V := ⟨_, rfl⟩
 rw [hV1] at hHB hRL hRT hR hz
 have HB_1 : Hid (Below w.heap.size w w1) := hHB
 have RL_1 : Hid (Rd w1 pa qi) := hRL
 have RT_1 : Hid (RdT w1 lo l) := hRT
 have R_1 : Hid (X5 w1 w.heap.size (.int .i64 0) (.int .i64 0) (.slice none 0 0) (.slice none 0 0) (.slice none 0 0)) := hR
 have z1 : w.heap.size + 1 ≤ w1.heap.size := by omega
 clear HB_0 RL_0 RT_0 hHB hRL hRT hR hz
 go_enter Try.func14, Try.ntmps14
 go_wp2_with fail
 clear hV1
 refine (qN _ RL_1.out).mono ?_
 rintro e w2 ⟨sa1, sc1, la1, lc1, ta1, tc1, rfl, ho, hb⟩
 have hB : Below w1.heap.size w1 w2 := hb
 have HB_2 : Hid (Below w.heap.size w w2) := HB_1.out.trans (hB.mono HB_1.out.size)
 have RL_2 : Hid (Rd w2 pa qi) := RL_1.out.later hB
 have RT_2 : Hid (RdT w2 lo l) := RT_1.out.later hB
 have R_2 : Hid (X5 w2 w.heap.size (.int .i64 0) (.int .i64 0) (.slice none 0 0) (.slice none 0 0) (.slice none 0 0)) := R_1.out.later hB
 have z2 : w1.heap.size ≤ w2.heap.size := hB.size
 have B0_2 : Hid (OwnBd w2 w1.heap.size w2.heap.size (.slice sa1 ns sc1) (.slice la1 nl lc1) (.slice ta1 nt tc1) (newV f0 qi)) := ho
 clear hb hB HB_1 RL_1 RT_1 R_1 ho
 have hHB := HB_2.out.alloc HB_2.out.size (.cells #[.int .i64 nf, .int .i64 ne, .slice sa1 ns sc1, .slice la1 nl lc1, .slice ta1 nt tc1] 29)
 have hRL := RL_2.out.later (balloc w2 (.cells #[.int .i64 nf, .int .i64 ne, .slice sa1 ns sc1, .slice la1 nl lc1, .slice ta1 nt tc1] 29))
 have hRT := RT_2.out.later (balloc w2 (.cells #[.int .i64 nf, .int .i64 ne, .slice sa1 ns sc1, .slice la1 nl lc1, .slice ta1 nt tc1] 29))
 have hR := R_2.out.later (balloc w2 (.cells #[.int .i64 nf, .int .i64 ne, .slice sa1 ns sc1, .slice la1 nl lc1, .slice ta1 nt tc1] 29))
 have hB0 := B0_2.out.later (balloc w2 (.cells #[.int .i64 nf, .int .i64 ne, .slice sa1 ns sc1, .slice la1 nl lc1, .slice ta1 nt tc1] 29))
 have hN := x5_new w2 (.int .i64 nf) (.int .i64 ne) (.slice sa1 ns sc1) (.slice la1 nl lc1) (.slice ta1 nt tc1) 29 w2.heap.size rfl
 have hz : (w2.alloc (.cells #[.int .i64 nf, .int .i64 ne, .slice sa1 ns sc1, .slice la1 nl lc1, .slice ta1 nt tc1] 29)).heap.size = w2.heap.size + 1 := by simp
 obtain ⟨w3, hV3⟩ : ∃ V, w2.alloc (.cells #[.int .i64 nf, .int .i64 ne, .slice sa1 ns sc1, .slice la1 nl lc1, .slice ta1 nt tc1] 29) = V := ⟨_, rfl⟩
 rw [hV3] at hHB hRL hRT hR hB0 hN hz
 have HB_3 : Hid (Below w.heap.size w w3) := hHB
 have RL_3 : Hid (Rd w3 pa qi) := hRL
 have RT_3 : Hid (RdT w3 lo l) := hRT
 have R_3 : Hid (X5 w3 w.heap.size (.int .i64 0) (.int .i64 0) (.slice none 0 0) (.slice none 0 0) (.slice none 0 0)) := hR
 have B0_3 : Hid (OwnBd w3 w1.heap.size w2.heap.size (.slice sa1 ns sc1) (.slice la1 nl lc1) (.slice ta1 nt tc1) (newV f0 qi)) := hB0
 have N_3 : Hid (X5 w3 w2.heap.size (.int .i64 nf) (.int .i64 ne) (.slice sa1 ns sc1) (.slice la1 nl lc1) (.slice ta1 nt tc1)) := hN
 have z3 : w2.heap.size + 1 ≤ w3.heap.size := by omega
 clear HB_2 RL_2 RT_2 R_2 B0_2 hHB hRL hRT hR hB0 hN hz
 have hZF := (((((R_3.out.set0 (.int .i64 0)).set1 (.int .i64 0)).set2 (.slice none 0 0)).set3 (.slice none 0 0)).set4 (.slice none 0 0))
 have hBF : Below w.heap.size w (((((w3.setCell ⟨w.heap.size, 0, none⟩ (.int .i64 0)).setCell ⟨w.heap.size, 1, none⟩ (.int .i64 0)).setCell ⟨w.heap.size, 2, none⟩ (.slice none 0 0)).setCell ⟨w.heap.size, 3, none⟩ (.slice none 0 0)).setCell ⟨w.heap.size, 4, none⟩ (.slice none 0 0)) := (((((HB_3.out.setCell (by show w.heap.size ≤ w.heap.size; omega) _).setCell (by show w.heap.size ≤ w.heap.size; omega) _).setCell (by show w.heap.size ≤ w.heap.size; omega) _).setCell (by show w.heap.size ≤ w.heap.size; omega) _).setCell (by show w.heap.size ≤ w.heap.size; omega) _)
 have hszF : (((((w3.setCell ⟨w.heap.size, 0, none⟩ (.int .i64 0)).setCell ⟨w.heap.size, 1, none⟩ (.int .i64 0)).setCell ⟨w.heap.size, 2, none⟩ (.slice none 0 0)).setCell ⟨w.heap.size, 3, none⟩ (.slice none 0 0)).setCell ⟨w.heap.size, 4, none⟩ (.slice none 0 0)).heap.size = w3.heap.size := by simp
 obtain ⟨⟨y0, y1, y2, y3, y4⟩, yf⟩ := id (R_3.out)
 have yf0 := yf 0
 have yf1 := yf 1
 have yf2 := yf 2
 have yf3 := yf 3
 have yf4 := yf 4
 obtain ⟨FW, hFW⟩ : ∃ F, (((((w3.setCell ⟨w.heap.size, 0, none⟩ (.int .i64 0)).setCell ⟨w.heap.size, 1, none⟩ (.int .i64 0)).setCell ⟨w.heap.size, 2, none⟩ (.slice none 0 0)).setCell ⟨w.heap.size, 3, none⟩ (.slice none 0 0)).setCell ⟨w.heap.size, 4, none⟩ (.slice none 0 0)) = F := ⟨_, rfl⟩
 rw [hFW] at hZF hBF hszF
 obtain ⟨⟨t0, t1, t2, t3, t4⟩, _⟩ := hZF
 have HBF : Hid (Below w.heap.size w FW) := hBF
 have HSF : Hid (FW.heap.size = w3.heap.size) := hszF
 clear hBF yf hszF
 go_wp2
 clear hV3
 refine bodyPost_ret (v := .tuple #[.agg #[.int .i64 0, .int .i64 0, .slice none 0 0, .slice none 0 0, .slice none 0 0], .slice none 0 0, .bool false]) (by simp [results, Try.results14, go_sem, t0, t1, t2, t3, t4]; try rfl) rfl ?_
 exact ⟨none, 0, none, 0, none, 0, none, 0, by rw [HV.out.1, HV.out.2]; rfl, by rw [HV.out.2]; exact zeroOwn _ _ _, by rw [HV.out.2]; exact OwnB.nilq _ _, HBF.out⟩

set_option maxHeartbeats 16000000 in
theorem specPlay_yes (f0 : Int) (pa : Option Addr) (pn pc : Nat) (lo : Option Addr) (n lc : Nat) (qi : List Int) (l : List (Int × Int × Int)) (w : World) (hp : qi.length = pn) (hpn : pn ≤ 1048576) (hx : l.length = n) (hn0 : n ≤ 1048576) (hrl : Rd w pa qi) (hz : pa = none → pn = 0 ∧ pc = 0) (hrt : RdT w lo l) (hc : couB f0 qi = true) (hn : n ≤ 60) :
  Calls Try.prog 14 #[.int .i64 f0, .slice pa pn pc, .slice lo n lc] w fun r w' => PbOk r w w' (pbV f0 qi l) (pbOk f0 qi l.length) := by
 have qN := fun wx (h : Rd wx pa qi) => specNew_c f0 pa pn pc qi wx hp hpn h hz
 unfold NewOk at qN
 have hnv : newV f0 qi = ⟨f0, 0, [], qi, []⟩ := by unfold newV; rw [if_pos hc]
 rw [hnv, hc] at qN
 simp only [List.length_nil, hp] at qN
 have HVO : Hid (pbOk f0 qi l.length = true) := by show _ = _; unfold pbOk; rw [hc, hx]; simp [hn]
 have HVV : Hid (pbV f0 qi l = playP ⟨f0, 0, [], qi, []⟩ l) := by show _ = _; unfold pbV; rw [if_pos HVO.out]
 have HG0 : Hid (goodBd ⟨f0, 0, [], qi, []⟩ = true) := by show _ = _; rw [good_newB]; exact hc
 have HP : Hid (qi.length = pn) := hp
 have HX : Hid (l.length = n) := hx
 have HR0 : Hid (∀ wx, Below w.heap.size w wx → RdT wx lo l) := fun wx h => hrt.later h
 have HBS : Hid (w.heap.size = w.heap.size) := rfl
 have hn6 : ¬ (60 : Int) < (n : Int) := by omega
 clear hnv hc hp hx hz
 have HB_0 : Hid (Below w.heap.size w w) := Below.refl _ _
 have RL_0 : Hid (Rd w pa qi) := hrl
 have RT_0 : Hid (RdT w lo l) := hrt
 clear hrl hrt
 have hHB := HB_0.out.alloc HB_0.out.size (.cells #[.int .i64 0, .int .i64 0, .slice none 0 0, .slice none 0 0, .slice none 0 0] 29)
 have hRL := RL_0.out.later (balloc w (.cells #[.int .i64 0, .int .i64 0, .slice none 0 0, .slice none 0 0, .slice none 0 0] 29))
 have hRT := RT_0.out.later (balloc w (.cells #[.int .i64 0, .int .i64 0, .slice none 0 0, .slice none 0 0, .slice none 0 0] 29))
 have hR := x5_new w (.int .i64 0) (.int .i64 0) (.slice none 0 0) (.slice none 0 0) (.slice none 0 0) 29 w.heap.size rfl
 have hz : (w.alloc (.cells #[.int .i64 0, .int .i64 0, .slice none 0 0, .slice none 0 0, .slice none 0 0] 29)).heap.size = w.heap.size + 1 := by simp
 obtain ⟨w1, hV1⟩ : ∃ V, w.alloc (.cells #[.int .i64 0, .int .i64 0, .slice none 0 0, .slice none 0 0, .slice none 0 0] 29) = V := ⟨_, rfl⟩
 rw [hV1] at hHB hRL hRT hR hz
 have HB_1 : Hid (Below w.heap.size w w1) := hHB
 have RL_1 : Hid (Rd w1 pa qi) := hRL
 have RT_1 : Hid (RdT w1 lo l) := hRT
 have R_1 : Hid (X5 w1 w.heap.size (.int .i64 0) (.int .i64 0) (.slice none 0 0) (.slice none 0 0) (.slice none 0 0)) := hR
 have z1 : w.heap.size + 1 ≤ w1.heap.size := by omega
 clear HB_0 RL_0 RT_0 hHB hRL hRT hR hz
 go_enter Try.func14, Try.ntmps14
 go_wp2_with fail
 clear hV1
 refine (qN _ RL_1.out).mono ?_
 rintro e w2 ⟨sa1, sc1, la1, lc1, ta1, tc1, rfl, ho, hb⟩
 have hB : Below w1.heap.size w1 w2 := hb
 have HB_2 : Hid (Below w.heap.size w w2) := HB_1.out.trans (hB.mono HB_1.out.size)
 have RL_2 : Hid (Rd w2 pa qi) := RL_1.out.later hB
 have RT_2 : Hid (RdT w2 lo l) := RT_1.out.later hB
 have R_2 : Hid (X5 w2 w.heap.size (.int .i64 0) (.int .i64 0) (.slice none 0 0) (.slice none 0 0) (.slice none 0 0)) := R_1.out.later hB
 have z2 : w1.heap.size ≤ w2.heap.size := hB.size
 have B0_2 : Hid (OwnBd w2 w1.heap.size w2.heap.size (.slice sa1 0 sc1) (.slice la1 pn lc1) (.slice ta1 0 tc1) ⟨f0, 0, [], qi, []⟩) := ho
 clear hb hB HB_1 RL_1 RT_1 R_1 ho
 have hHB := HB_2.out.alloc HB_2.out.size (.cells #[.int .i64 f0, .int .i64 0, .slice sa1 0 sc1, .slice la1 pn lc1, .slice ta1 0 tc1] 29)
 have hRL := RL_2.out.later (balloc w2 (.cells #[.int .i64 f0, .int .i64 0, .slice sa1 0 sc1, .slice la1 pn lc1, .slice ta1 0 tc1] 29))
 have hRT := RT_2.out.later (balloc w2 (.cells #[.int .i64 f0, .int .i64 0, .slice sa1 0 sc1, .slice la1 pn lc1, .slice ta1 0 tc1] 29))
 have hR := R_2.out.later (balloc w2 (.cells #[.int .i64 f0, .int .i64 0, .slice sa1 0 sc1, .slice la1 pn lc1, .slice ta1 0 tc1] 29))
 have hB0 := B0_2.out.later (balloc w2 (.cells #[.int .i64 f0, .int .i64 0, .slice sa1 0 sc1, .slice la1 pn lc1, .slice ta1 0 tc1] 29))
 have hN := x5_new w2 (.int .i64 f0) (.int .i64 0) (.slice sa1 0 sc1) (.slice la1 pn lc1) (.slice ta1 0 tc1) 29 w2.heap.size rfl
 have hz : (w2.alloc (.cells #[.int .i64 f0, .int .i64 0, .slice sa1 0 sc1, .slice la1 pn lc1, .slice ta1 0 tc1] 29)).heap.size = w2.heap.size + 1 := by simp
 obtain ⟨w3, hV3⟩ : ∃ V, w2.alloc (.cells #[.int .i64 f0, .int .i64 0, .slice sa1 0 sc1, .slice la1 pn lc1, .slice ta1 0 tc1] 29) = V := ⟨_, rfl⟩
 rw [hV3] at hHB hRL hRT hR hB0 hN hz
 have HB_3 : Hid (Below w.heap.size w w3) := hHB
 have RL_3 : Hid (Rd w3 pa qi) := hRL
 have RT_3 : Hid (RdT w3 lo l) := hRT
 have R_3 : Hid (X5 w3 w.heap.size (.int .i64 0) (.int .i64 0) (.slice none 0 0) (.slice none 0 0) (.slice none 0 0)) := hR
 have B0_3 : Hid (OwnBd w3 w1.heap.size w2.heap.size (.slice sa1 0 sc1) (.slice la1 pn lc1) (.slice ta1 0 tc1) ⟨f0, 0, [], qi, []⟩) := hB0
 have N_3 : Hid (X5 w3 w2.heap.size (.int .i64 f0) (.int .i64 0) (.slice sa1 0 sc1) (.slice la1 pn lc1) (.slice ta1 0 tc1)) := hN
 have z3 : w2.heap.size + 1 ≤ w3.heap.size := by omega
 clear HB_2 RL_2 RT_2 R_2 B0_2 hHB hRL hRT hR hB0 hN hz
 go_wp2
 clear hV3
 have hlo6 : w.heap.size + 1 ≤ w1.heap.size := by omega
 have HNO : Hid (OwnBd w3 (w.heap.size + 1) w3.heap.size (.slice sa1 0 sc1) (.slice la1 pn lc1) (.slice ta1 0 tc1) ⟨f0, 0, [], qi, []⟩) := B0_3.out.mono hlo6 (by omega)
 have HN9 : Hid (X5 w3 w2.heap.size (.int .i64 f0) (.int .i64 0) (.slice sa1 0 sc1) (.slice la1 pn lc1) (.slice ta1 0 tc1)) := N_3.out
 have HR6 : Hid (X5 w3 w.heap.size (.int .i64 0) (.int .i64 0) (.slice none 0 0) (.slice none 0 0) (.slice none 0 0)) := R_3.out
 have HZ : Hid (w.heap.size < w2.heap.size ∧ w2.heap.size < w3.heap.size) := ⟨by omega, by omega⟩
 have HB9 : Hid (Below w.heap.size w w3) := HB_3.out
 clear HB_3 RL_3 RT_3 R_3 B0_3 N_3 hlo6
 go_loopw [11, 32] (fun dv iv wr => ∃ (k : Nat) (f e : Int) (sa : Option Addr) (sn sc : Nat) (la : Option Addr) (ln lcx : Nat) (ta : Option Addr) (tn tc : Nat) (sg : List (List Int)) (li ls : List Int) (dd : List Bool), k ≤ n ∧ iv = .int .i64 k ∧ Hid (playP ⟨f0, 0, [], qi, []⟩ (l.take k) = (⟨f, e, sg, li, ls⟩, dd)) ∧ Hid (sg.length = sn ∧ li.length = ln ∧ ls.length = tn) ∧ Hid (X5 wr w2.heap.size (.int .i64 f) (.int .i64 e) (.slice sa sn sc) (.slice la ln lcx) (.slice ta tn tc)) ∧ Hid (OwnBd wr (w.heap.size + 1) wr.heap.size (.slice sa sn sc) (.slice la ln lcx) (.slice ta tn tc) ⟨f, e, sg, li, ls⟩) ∧ Hid (OwnB wr w3.heap.size dv dd) ∧ Hid (X5 wr w.heap.size (.int .i64 0) (.int .i64 0) (.slice none 0 0) (.slice none 0 0) (.slice none 0 0)) ∧ Hid (Below w.heap.size w wr) ∧ Hid (w3.heap.size ≤ wr.heap.size)) (fun _ iv _ => n - (intOf iv).toNat)
 case atStart => exact ⟨0, f0, 0, sa1, 0, sc1, la1, pn, lc1, ta1, 0, tc1, [], qi, [], [], Nat.zero_le _, rfl, rfl, ⟨rfl, HP.out, rfl⟩, HN9, HNO, OwnB.nilq _ _, HR6, HB9, Nat.le_refl _⟩
 case round =>
  obtain ⟨k, f, e, sa, sn, sc, la, ln, lcx, ta, tn, tc, sg, li, ls, dd, hk, rfl, HPL, HLN, HNb, HOb, HDv, HRz, HBw, HSz⟩ := hrel
  clear HN9 HNO HR6 HB9
  have HGD : Hid (goodBd ⟨f, e, sg, li, ls⟩ = true) := by have h := playP_good HG0.out (l.take k); rw [HPL.out] at h; exact h
  have HDL : Hid (dd.length = k) := by show _ = _; have h := playP_len HG0.out (l.take k); rw [HPL.out] at h; have h2 : dd.length = (l.take k).length := h; rw [List.length_take, HX.out] at h2; omega
  have hz := HZ.out
  have hsz := HSz.out
  by_cases hlt : k < n
  case neg =>
   obtain rfl : k = n := by omega
   have HV : Hid (pbV f0 qi l = (⟨f, e, sg, li, ls⟩, dd) ∧ pbOk f0 qi l.length = true) := ⟨by rw [HVV.out]; have h := HPL.out; rw [List.take_of_length_le (by rw [HX.out]; exact Nat.le_refl _)] at h; exact h, HVO.out⟩
   obtain ⟨da, dc, hdv⟩ := HDv.out.shape
   rw [HDL.out] at hdv
   subst hdv
   have HB_40 : Hid (Below w.heap.size w wr) := HBw.out
   have N_40 : Hid (X5 wr w2.heap.size (.int .i64 f) (.int .i64 e) (.slice sa sn sc) (.slice la ln lcx) (.slice ta tn tc)) := HNb.out
   have R_40 : Hid (X5 wr w.heap.size (.int .i64 0) (.int .i64 0) (.slice none 0 0) (.slice none 0 0) (.slice none 0 0)) := HRz.out
   have OB_40 : Hid (ReadB wr sa sn sc la ln lcx ta tn tc ⟨f, e, sg, li, ls⟩) := HOb.out.read
   have DV_40 : Hid (OwnB wr w3.heap.size (.slice da k dc) dd) := HDv.out
   have qO := own_read wr sa sn sc la ln lcx ta tn tc ⟨f, e, sg, li, ls⟩ HGD.out OB_40.out
   dsimp only at qO
   obtain ⟨⟨Nq0, Nq1, Nq2, Nq3, Nq4⟩, Nf⟩ := id (N_40.out)
   clear Nf
   go_wp2_with fail
   refine (qO).mono ?_
   clear Nq0 Nq1 Nq2 Nq3 Nq4
   rintro e w41 ⟨sa3, sc3, la3, lc3, ta3, tc3, rfl, ho, hb⟩
   have hB : Below wr.heap.size wr w41 := hb
   have HB_41 : Hid (Below w.heap.size w w41) := HB_40.out.trans (hB.mono HB_40.out.size)
   have N_41 : Hid (X5 w41 w2.heap.size (.int .i64 f) (.int .i64 e) (.slice sa sn sc) (.slice la ln lcx) (.slice ta tn tc)) := N_40.out.later hB
   have R_41 : Hid (X5 w41 w.heap.size (.int .i64 0) (.int .i64 0) (.slice none 0 0) (.slice none 0 0) (.slice none 0 0)) := R_40.out.later hB
   have OB_41 : Hid (ReadB w41 sa sn sc la ln lcx ta tn tc ⟨f, e, sg, li, ls⟩) := OB_40.out.later hB
   have DV_41 : Hid (OwnB w41 w3.heap.size (.slice da k dc) dd) := DV_40.out.later hB
   have z41 : wr.heap.size ≤ w41.heap.size := hB.size
   have BF_41 : Hid (OwnBd w41 wr.heap.size w41.heap.size (.slice sa3 sn sc3) (.slice la3 ln lc3) (.slice ta3 tn tc3) ⟨f, e, sg, li, ls⟩) := ho
   clear hb hB HB_40 N_40 R_40 OB_40 DV_40 ho
   have hZF := (((((R_41.out.set0 (.int .i64 f)).set1 (.int .i64 e)).set2 (.slice sa3 sn sc3)).set3 (.slice la3 ln lc3)).set4 (.slice ta3 tn tc3))
   have hBF : Below w.heap.size w (((((w41.setCell ⟨w.heap.size, 0, none⟩ (.int .i64 f)).setCell ⟨w.heap.size, 1, none⟩ (.int .i64 e)).setCell ⟨w.heap.size, 2, none⟩ (.slice sa3 sn sc3)).setCell ⟨w.heap.size, 3, none⟩ (.slice la3 ln lc3)).setCell ⟨w.heap.size, 4, none⟩ (.slice ta3 tn tc3)) := (((((HB_41.out.setCell (by show w.heap.size ≤ w.heap.size; omega) _).setCell (by show w.heap.size ≤ w.heap.size; omega) _).setCell (by show w.heap.size ≤ w.heap.size; omega) _).setCell (by show w.heap.size ≤ w.heap.size; omega) _).setCell (by show w.heap.size ≤ w.heap.size; omega) _)
   have hOF := (OwnBd.setBox (OwnBd.setBox (OwnBd.setBox (OwnBd.setBox (OwnBd.setBox BF_41.out (r := w.heap.size) (j := 0) (by omega) (.int .i64 f)) (r := w.heap.size) (j := 1) (by omega) (.int .i64 e)) (r := w.heap.size) (j := 2) (by omega) (.slice sa3 sn sc3)) (r := w.heap.size) (j := 3) (by omega) (.slice la3 ln lc3)) (r := w.heap.size) (j := 4) (by omega) (.slice ta3 tn tc3))
   have hDF := (((((DV_41.out.kept (grown_setCell w41 w.heap.size 0 (.int .i64 f)) (sep_lt (own_block_geB DV_41.out) (by omega))).kept (grown_setCell (w41.setCell ⟨w.heap.size, 0, none⟩ (.int .i64 f)) w.heap.size 1 (.int .i64 e)) (sep_lt (own_block_geB (DV_41.out.kept (grown_setCell w41 w.heap.size 0 (.int .i64 f)) (sep_lt (own_block_geB DV_41.out) (by omega)))) (by omega))).kept (grown_setCell ((w41.setCell ⟨w.heap.size, 0, none⟩ (.int .i64 f)).setCell ⟨w.heap.size, 1, none⟩ (.int .i64 e)) w.heap.size 2 (.slice sa3 sn sc3)) (sep_lt (own_block_geB ((DV_41.out.kept (grown_setCell w41 w.heap.size 0 (.int .i64 f)) (sep_lt (own_block_geB DV_41.out) (by omega))).kept (grown_setCell (w41.setCell ⟨w.heap.size, 0, none⟩ (.int .i64 f)) w.heap.size 1 (.int .i64 e)) (sep_lt (own_block_geB (DV_41.out.kept (grown_setCell w41 w.heap.size 0 (.int .i64 f)) (sep_lt (own_block_geB DV_41.out) (by omega)))) (by omega)))) (by omega))).kept (grown_setCell (((w41.setCell ⟨w.heap.size, 0, none⟩ (.int .i64 f)).setCell ⟨w.heap.size, 1, none⟩ (.int .i64 e)).setCell ⟨w.heap.size, 2, none⟩ (.slice sa3 sn sc3)) w.heap.size 3 (.slice la3 ln lc3)) (sep_lt (own_block_geB (((DV_41.out.kept (grown_setCell w41 w.heap.size 0 (.int .i64 f)) (sep_lt (own_block_geB DV_41.out) (by omega))).kept (grown_setCell (w41.setCell ⟨w.heap.size, 0, none⟩ (.int .i64 f)) w.heap.size 1 (.int .i64 e)) (sep_lt (own_block_geB (DV_41.out.kept (grown_setCell w41 w.heap.size 0 (.int .i64 f)) (sep_lt (own_block_geB DV_41.out) (by omega)))) (by omega))).kept (grown_setCell ((w41.setCell ⟨w.heap.size, 0, none⟩ (.int .i64 f)).setCell ⟨w.heap.size, 1, none⟩ (.int .i64 e)) w.heap.size 2 (.slice sa3 sn sc3)) (sep_lt (own_block_geB ((DV_41.out.kept (grown_setCell w41 w.heap.size 0 (.int .i64 f)) (sep_lt (own_block_geB DV_41.out) (by omega))).kept (grown_setCell (w41.setCell ⟨w.heap.size, 0, none⟩ (.int .i64 f)) w.heap.size 1 (.int .i64 e)) (sep_lt (own_block_geB (DV_41.out.kept (grown_setCell w41 w.heap.size 0 (.int .i64 f)) (sep_lt (own_block_geB DV_41.out) (by omega)))) (by omega)))) (by omega)))) (by omega))).kept (grown_setCell ((((w41.setCell ⟨w.heap.size, 0, none⟩ (.int .i64 f)).setCell ⟨w.heap.size, 1, none⟩ (.int .i64 e)).setCell ⟨w.heap.size, 2, none⟩ (.slice sa3 sn sc3)).setCell ⟨w.heap.size, 3, none⟩ (.slice la3 ln lc3)) w.heap.size 4 (.slice ta3 tn tc3)) (sep_lt (own_block_geB ((((DV_41.out.kept (grown_setCell w41 w.heap.size 0 (.int .i64 f)) (sep_lt (own_block_geB DV_41.out) (by omega))).kept (grown_setCell (w41.setCell ⟨w.heap.size, 0, none⟩ (.int .i64 f)) w.heap.size 1 (.int .i64 e)) (sep_lt (own_block_geB (DV_41.out.kept (grown_setCell w41 w.heap.size 0 (.int .i64 f)) (sep_lt (own_block_geB DV_41.out) (by omega)))) (by omega))).kept (grown_setCell ((w41.setCell ⟨w.heap.size, 0, none⟩ (.int .i64 f)).setCell ⟨w.heap.size, 1, none⟩ (.int .i64 e)) w.heap.size 2 (.slice sa3 sn sc3)) (sep_lt (own_block_geB ((DV_41.out.kept (grown_setCell w41 w.heap.size 0 (.int .i64 f)) (sep_lt (own_block_geB DV_41.out) (by omega))).kept (grown_setCell (w41.setCell ⟨w.heap.size, 0, none⟩ (.int .i64 f)) w.heap.size 1 (.int .i64 e)) (sep_lt (own_block_geB (DV_41.out.kept (grown_setCell w41 w.heap.size 0 (.int .i64 f)) (sep_lt (own_block_geB DV_41.out) (by omega)))) (by omega)))) (by omega))).kept (grown_setCell (((w41.setCell ⟨w.heap.size, 0, none⟩ (.int .i64 f)).setCell ⟨w.heap.size, 1, none⟩ (.int .i64 e)).setCell ⟨w.heap.size, 2, none⟩ (.slice sa3 sn sc3)) w.heap.size 3 (.slice la3 ln lc3)) (sep_lt (own_block_geB (((DV_41.out.kept (grown_setCell w41 w.heap.size 0 (.int .i64 f)) (sep_lt (own_block_geB DV_41.out) (by omega))).kept (grown_setCell (w41.setCell ⟨w.heap.size, 0, none⟩ (.int .i64 f)) w.heap.size 1 (.int .i64 e)) (sep_lt (own_block_geB (DV_41.out.kept (grown_setCell w41 w.heap.size 0 (.int .i64 f)) (sep_lt (own_block_geB DV_41.out) (by omega)))) (by omega))).kept (grown_setCell ((w41.setCell ⟨w.heap.size, 0, none⟩ (.int .i64 f)).setCell ⟨w.heap.size, 1, none⟩ (.int .i64 e)) w.heap.size 2 (.slice sa3 sn sc3)) (sep_lt (own_block_geB ((DV_41.out.kept (grown_setCell w41 w.heap.size 0 (.int .i64 f)) (sep_lt (own_block_geB DV_41.out) (by omega))).kept (grown_setCell (w41.setCell ⟨w.heap.size, 0, none⟩ (.int .i64 f)) w.heap.size 1 (.int .i64 e)) (sep_lt (own_block_geB (DV_41.out.kept (grown_setCell w41 w.heap.size 0 (.int .i64 f)) (sep_lt (own_block_geB DV_41.out) (by omega)))) (by omega)))) (by omega)))) (by omega)))) (by omega)))
   have hszF : (((((w41.setCell ⟨w.heap.size, 0, none⟩ (.int .i64 f)).setCell ⟨w.heap.size, 1, none⟩ (.int .i64 e)).setCell ⟨w.heap.size, 2, none⟩ (.slice sa3 sn sc3)).setCell ⟨w.heap.size, 3, none⟩ (.slice la3 ln lc3)).setCell ⟨w.heap.size, 4, none⟩ (.slice ta3 tn tc3)).heap.size = w41.heap.size := by simp
   obtain ⟨⟨y0, y1, y2, y3, y4⟩, yf⟩ := id (R_41.out)
   have yf0 := yf 0
   have yf1 := yf 1
   have yf2 := yf 2
   have yf3 := yf 3
   have yf4 := yf 4
   obtain ⟨FW, hFW⟩ : ∃ F, (((((w41.setCell ⟨w.heap.size, 0, none⟩ (.int .i64 f)).setCell ⟨w.heap.size, 1, none⟩ (.int .i64 e)).setCell ⟨w.heap.size, 2, none⟩ (.slice sa3 sn sc3)).setCell ⟨w.heap.size, 3, none⟩ (.slice la3 ln lc3)).setCell ⟨w.heap.size, 4, none⟩ (.slice ta3 tn tc3)) = F := ⟨_, rfl⟩
   rw [hFW] at hZF hBF hszF hOF hDF
   obtain ⟨⟨t0, t1, t2, t3, t4⟩, _⟩ := hZF
   have HBF : Hid (Below w.heap.size w FW) := hBF
   have HSF : Hid (FW.heap.size = w41.heap.size) := hszF
   have HOF := hid_of hOF
   have HDF := hid_of hDF
   clear hBF yf hszF hOF hDF
   obtain ⟨⟨Nq0, Nq1, Nq2, Nq3, Nq4⟩, Nf⟩ := id (N_41.out)
   clear Nf
   go_wp2
   refine bodyPost_ret (v := .tuple #[.agg #[.int .i64 f, .int .i64 e, .slice sa3 sn sc3, .slice la3 ln lc3, .slice ta3 tn tc3], .slice da k dc, .bool true]) (by simp [results, Try.results14, go_sem, t0, t1, t2, t3, t4]; try rfl) rfl ?_
   have h9 := HSF.out
   refine ⟨sa3, sc3, la3, lc3, ta3, tc3, da, dc, ?_, ?_, ?_, HBF.out⟩
   ·rw [HV.out.1, HV.out.2]
    simp only [HLN.out.1, HLN.out.2.1, HLN.out.2.2, HDL.out]
   ·rw [HV.out.1]
    simp only [HLN.out.1, HLN.out.2.1, HLN.out.2.2]
    exact HOF.out.mono (by omega) (by omega)
   ·rw [HV.out.1]
    simp only [HDL.out]
    exact HDF.out.mono (by omega)
  have k0 : (0 : Int) ≤ (k : Int) := by omega
  have k1 : (k : Int) < (n : Int) := by omega
  have hkl : k < l.length := by rw [HX.out]; exact hlt
  obtain ⟨b, o, rfl, s0, s1, c2k⟩ := (HR0.out wr HBw.out).get hkl
  have HPN : Hid (playP ⟨f0, 0, [], qi, []⟩ (l.take (k + 1)) = plS (⟨f, e, sg, li, ls⟩, dd) (l.getD k (0, 0, 0))) := by show _ = _; rw [playP_succ hkl, HPL.out]
  generalize l.getD k (0, 0, 0) = x at HPN s0 s1 c2k
  obtain ⟨kk, mm, ll⟩ := x
  dsimp only at s0 s1 c2k
  have I_DV : Hid (∀ q, u11.ownBlock = some q → w3.heap.size ≤ q ∧ q < wr.heap.size) := World.ownsRow.lt HDv.out
  cases hfb : (stepO ⟨f, e, sg, li, ls⟩ kk mm ll).isSome
  case false =>
   have HPS : Hid (playP ⟨f0, 0, [], qi, []⟩ (l.take (k + 1)) = (⟨f, e, sg, li, ls⟩, dd ++ [false])) := by show _ = _; rw [HPN.out]; simp only [plS, stepW, hfb]; cases hs : stepO ⟨f, e, sg, li, ls⟩ kk mm ll with | none => rfl | some c => rw [hs] at hfb; cases hfb
   have HB_40 : Hid (Below w.heap.size w wr) := HBw.out
   have N_40 : Hid (X5 wr w2.heap.size (.int .i64 f) (.int .i64 e) (.slice sa sn sc) (.slice la ln lcx) (.slice ta tn tc)) := HNb.out
   have R_40 : Hid (X5 wr w.heap.size (.int .i64 0) (.int .i64 0) (.slice none 0 0) (.slice none 0 0) (.slice none 0 0)) := HRz.out
   have OB_40 : Hid (OwnBd wr (w.heap.size + 1) wr.heap.size (.slice sa sn sc) (.slice la ln lcx) (.slice ta tn tc) ⟨f, e, sg, li, ls⟩) := HOb.out
   have DV_40 : Hid (OwnB wr w3.heap.size u11 dd) := HDv.out
   have F := good_few HGD.out
   have hsn : sn ≤ 200 := by have := F.s; have := HLN.out.1; simp only at *; omega
   have hln : ln ≤ 2 := by have := F.l; have := HLN.out.2.1; simp only at *; omega
   have htn : tn ≤ 10 := by have := F.t; have := HLN.out.2.2; simp only at *; omega
   have qO : ∀ wx, ReadB wx sa sn sc la ln lcx ta tn tc ⟨f, e, sg, li, ls⟩ → _ := fun wx h => own_read wx sa sn sc la ln lcx ta tn tc ⟨f, e, sg, li, ls⟩ HGD.out h
   dsimp only at qO
   have qS : ∀ a1 c1 a2 c2 a3 c3 lo hi wx, OwnBd wx lo hi (.slice a1 sn c1) (.slice a2 ln c2) (.slice a3 tn c3) ⟨f, e, sg, li, ls⟩ → hi ≤ wx.heap.size → lo ≤ hi → _ := fun a1 c1 a2 c2 a3 c3 lo hi wx h h1 h2 => l13Step_c f e a1 sn c1 a2 ln c2 a3 tn c3 sg li ls kk mm ll lo hi wx HGD.out h h1 h2
   unfold StOk at qS
   obtain ⟨nb, hnb⟩ : ∃ nb, (stepO ⟨f, e, sg, li, ls⟩ kk mm ll).getD ⟨f, e, sg, li, ls⟩ = nb := ⟨_, rfl⟩
   obtain ⟨nf2, hn1⟩ : ∃ n, nb.f = n := ⟨_, rfl⟩
   obtain ⟨ne2, hn2⟩ : ∃ n, nb.e = n := ⟨_, rfl⟩
   obtain ⟨ns2, hn3⟩ : ∃ n, nb.sg.length = n := ⟨_, rfl⟩
   obtain ⟨nl2, hn4⟩ : ∃ n, nb.li.length = n := ⟨_, rfl⟩
   obtain ⟨nt2, hn5⟩ : ∃ n, nb.ls.length = n := ⟨_, rfl⟩
   rw [hnb, hn1, hn2, hn3, hn4, hn5, hfb] at qS
   clear hnb hn1 hn2 hn3 hn4 hn5 hfb F HNb HOb HDv HRz HBw HPN HPL hkl
   have hHB := HB_40.out.alloc HB_40.out.size (.cells #[.int .i64 kk, .int .i64 mm, .int .i64 ll] 40)
   have hN := N_40.out.later (balloc wr (.cells #[.int .i64 kk, .int .i64 mm, .int .i64 ll] 40))
   have hR := R_40.out.later (balloc wr (.cells #[.int .i64 kk, .int .i64 mm, .int .i64 ll] 40))
   have hOB := OB_40.out.later (balloc wr (.cells #[.int .i64 kk, .int .i64 mm, .int .i64 ll] 40))
   have hDV := DV_40.out.later (balloc wr (.cells #[.int .i64 kk, .int .i64 mm, .int .i64 ll] 40))
   have hS := x3_new wr (.int .i64 kk) (.int .i64 mm) (.int .i64 ll) 40 wr.heap.size rfl
   have hz : (wr.alloc (.cells #[.int .i64 kk, .int .i64 mm, .int .i64 ll] 40)).heap.size = wr.heap.size + 1 := by simp
   obtain ⟨w41, hV41⟩ : ∃ V, wr.alloc (.cells #[.int .i64 kk, .int .i64 mm, .int .i64 ll] 40) = V := ⟨_, rfl⟩
   rw [hV41] at hHB hN hR hOB hDV hS hz
   have HB_41 : Hid (Below w.heap.size w w41) := hHB
   have N_41 : Hid (X5 w41 w2.heap.size (.int .i64 f) (.int .i64 e) (.slice sa sn sc) (.slice la ln lcx) (.slice ta tn tc)) := hN
   have R_41 : Hid (X5 w41 w.heap.size (.int .i64 0) (.int .i64 0) (.slice none 0 0) (.slice none 0 0) (.slice none 0 0)) := hR
   have OB_41 : Hid (OwnBd w41 (w.heap.size + 1) wr.heap.size (.slice sa sn sc) (.slice la ln lcx) (.slice ta tn tc) ⟨f, e, sg, li, ls⟩) := hOB
   have DV_41 : Hid (OwnB w41 w3.heap.size u11 dd) := hDV
   have S_41 : Hid (X3 w41 wr.heap.size (.int .i64 kk) (.int .i64 mm) (.int .i64 ll)) := hS
   have z41 : wr.heap.size + 1 ≤ w41.heap.size := by omega
   clear HB_40 N_40 R_40 OB_40 DV_40 hHB hN hR hOB hDV hS hz
   obtain ⟨⟨Nq0, Nq1, Nq2, Nq3, Nq4⟩, Nf⟩ := id (N_41.out)
   clear Nf
   obtain ⟨⟨Sq0, Sq1, Sq2⟩, Sf⟩ := id (S_41.out)
   clear Sf
   go_upto_region 8 with fail
   clear hV41
   clear Nq0 Nq1 Nq2 Nq3 Nq4
   clear Sq0 Sq1 Sq2
   refine wp_mono (pbReg8_w _ _ _ _ _ _ _ _ _ _ _ _ _ _ _ _ _ _ _ _ _ _ _ _ _ _ _ _ _ _ _ _ _ _ _ _ _ _ _ _ _ _ _ _ _ _ _ _ _ _ _ w2.heap.size wr.heap.size f e sa sn sc la ln lcx ta tn tc sg li ls kk mm ll nf2 ne2 ns2 nl2 nt2 nb false _ w41 N_41.out S_41.out OB_41.out.read qO qS (fun sa1 sc1 la1 lc1 ta1 tc1 sa2 sc2 la2 lc3 ta2 tc2 g8 w42 h8 ho8 hbb hl8 => ?_)) (fun e a w h => by cases e <;> first | exact h | exact h.elim)
   have HB_42 : Hid (Below w.heap.size w w42) := HB_41.out.trans (hbb.mono HB_41.out.size)
   have N_42 : Hid (X5 w42 w2.heap.size (.int .i64 f) (.int .i64 e) (.slice sa sn sc) (.slice la ln lcx) (.slice ta tn tc)) := N_41.out.later hbb
   have R_42 : Hid (X5 w42 w.heap.size (.int .i64 0) (.int .i64 0) (.slice none 0 0) (.slice none 0 0) (.slice none 0 0)) := R_41.out.later hbb
   have OB_42 : Hid (OwnBd w42 (w.heap.size + 1) wr.heap.size (.slice sa sn sc) (.slice la ln lcx) (.slice ta tn tc) ⟨f, e, sg, li, ls⟩) := OB_41.out.later hbb
   have DV_42 : Hid (OwnB w42 w3.heap.size u11 dd) := DV_41.out.later hbb
   have S_42 : Hid (X3 w42 wr.heap.size (.int .i64 kk) (.int .i64 mm) (.int .i64 ll)) := S_41.out.later hbb
   have z42 : w41.heap.size ≤ w42.heap.size := hbb.size
   have l8 : g8 < w42.heap.size := h8.lt
   have X_42 : Hid (X5 w42 g8 (.int .i64 nf2) (.int .i64 ne2) (.slice sa2 ns2 sc2) (.slice la2 nl2 lc3) (.slice ta2 nt2 tc2)) := h8
   have NB_42 : Hid (OwnBd w42 w41.heap.size w42.heap.size (.slice sa2 ns2 sc2) (.slice la2 nl2 lc3) (.slice ta2 nt2 tc2) nb) := ho8
   clear h8 ho8 hbb qO qS HB_41 N_41 R_41 OB_41 DV_41 S_41
   clear S_42
   clear X_42
   clear NB_42
   have bA := balloc w42 (.cells #[.bool false] 4)
   have zA : (w42.alloc (.cells #[.bool false] 4)).heap.size = w42.heap.size + 1 := by simp
   have hDA := DV_42.out.later bA
   obtain ⟨v', w43, r1, o1, gg, _⟩ := appendB_run (w42.alloc (.cells #[.bool false] 4)) w3.heap.size u11 dd [false] (some ⟨w42.heap.size, 0, none⟩) 1 1 hDA (litB w42 false) rfl (fun e => by cases e) (by rw [HDL.out]; simp; omega) (by omega)
   have hzg := gg.size
   have hbx : ∀ q, u11.ownBlock = some q → BoxT (w42.alloc (.cells #[.bool false] 4)) q := fun q hq => OwnB.boxT hDA hq
   have HB_43 : Hid (Below w.heap.size w w43) := Below.grown (HB_42.out.alloc HB_42.out.size _) gg (by have := HB_42.out.size; omega) (fun q e => by have := I_DV.out q e; have := HBS.out; omega)
   have N_43 : Hid (X5 w43 w2.heap.size (.int .i64 f) (.int .i64 e) (.slice sa sn sc) (.slice la ln lcx) (.slice ta tn tc)) := (N_42.out.later bA).grown gg (fun e => by have := I_DV.out _ e.symm; omega)
   have R_43 : Hid (X5 w43 w.heap.size (.int .i64 0) (.int .i64 0) (.slice none 0 0) (.slice none 0 0) (.slice none 0 0)) := (R_42.out.later bA).grown gg (fun e => by have := I_DV.out _ e.symm; omega)
   have OB_43 : Hid (OwnBd w43 (w.heap.size + 1) wr.heap.size (.slice sa sn sc) (.slice la ln lcx) (.slice ta tn tc) ⟨f, e, sg, li, ls⟩) := (OB_42.out.later bA).grownBox gg hbx
   have DV_43 : Hid (OwnB w43 w3.heap.size v' (dd ++ [false])) := o1
   have z43 : w42.heap.size ≤ w43.heap.size := by omega
   clear bA zA hDA hzg hbx o1 gg HB_42 N_42 R_42 OB_42 DV_42
   go_wp2_with (first | (at_builtin; refine Lib.wpList_append_run _ rfl _ _ _ _ rfl _ _ rfl rfl _ _ (r1 _) ?_; clear r1) | fail)
   go_roundw
   case rel => exact ⟨k + 1, f, e, sa, sn, sc, la, ln, lcx, ta, tn, tc, sg, li, ls, dd ++ [false], by omega, by go_num, HPS, HLN, N_43.out, OB_43.out.mono (Nat.le_refl _) (by omega), DV_43.out, R_43.out, HB_43.out, (by omega : w3.heap.size ≤ w43.heap.size)⟩
   case measure => simp [intOf]; omega
  case true =>
   have HB_40 : Hid (Below w.heap.size w wr) := HBw.out
   have N_40 : Hid (X5 wr w2.heap.size (.int .i64 f) (.int .i64 e) (.slice sa sn sc) (.slice la ln lcx) (.slice ta tn tc)) := HNb.out
   have R_40 : Hid (X5 wr w.heap.size (.int .i64 0) (.int .i64 0) (.slice none 0 0) (.slice none 0 0) (.slice none 0 0)) := HRz.out
   have OB_40 : Hid (OwnBd wr (w.heap.size + 1) wr.heap.size (.slice sa sn sc) (.slice la ln lcx) (.slice ta tn tc) ⟨f, e, sg, li, ls⟩) := HOb.out
   have DV_40 : Hid (OwnB wr w3.heap.size u11 dd) := HDv.out
   have F := good_few HGD.out
   have hsn : sn ≤ 200 := by have := F.s; have := HLN.out.1; simp only at *; omega
   have hln : ln ≤ 2 := by have := F.l; have := HLN.out.2.1; simp only at *; omega
   have htn : tn ≤ 10 := by have := F.t; have := HLN.out.2.2; simp only at *; omega
   have qO : ∀ wx, ReadB wx sa sn sc la ln lcx ta tn tc ⟨f, e, sg, li, ls⟩ → _ := fun wx h => own_read wx sa sn sc la ln lcx ta tn tc ⟨f, e, sg, li, ls⟩ HGD.out h
   dsimp only at qO
   have qS : ∀ a1 c1 a2 c2 a3 c3 lo hi wx, OwnBd wx lo hi (.slice a1 sn c1) (.slice a2 ln c2) (.slice a3 tn c3) ⟨f, e, sg, li, ls⟩ → hi ≤ wx.heap.size → lo ≤ hi → _ := fun a1 c1 a2 c2 a3 c3 lo hi wx h h1 h2 => l13Step_c f e a1 sn c1 a2 ln c2 a3 tn c3 sg li ls kk mm ll lo hi wx HGD.out h h1 h2
   unfold StOk at qS
   obtain ⟨nb, hnb⟩ : ∃ nb, (stepO ⟨f, e, sg, li, ls⟩ kk mm ll).getD ⟨f, e, sg, li, ls⟩ = nb := ⟨_, rfl⟩
   obtain ⟨nf2, hn1⟩ : ∃ n, nb.f = n := ⟨_, rfl⟩
   obtain ⟨ne2, hn2⟩ : ∃ n, nb.e = n := ⟨_, rfl⟩
   obtain ⟨ns2, hn3⟩ : ∃ n, nb.sg.length = n := ⟨_, rfl⟩
   obtain ⟨nl2, hn4⟩ : ∃ n, nb.li.length = n := ⟨_, rfl⟩
   obtain ⟨nt2, hn5⟩ : ∃ n, nb.ls.length = n := ⟨_, rfl⟩
   rw [hnb, hn1, hn2, hn3, hn4, hn5, hfb] at qS
   have HPS : Hid (playP ⟨f0, 0, [], qi, []⟩ (l.take (k + 1)) = (nb, dd ++ [true])) := by show _ = _; rw [HPN.out]; simp only [plS, stepW, hfb]; rw [hnb]
   have HNN : Hid (nb.f = nf2 ∧ nb.e = ne2 ∧ nb.sg.length = ns2 ∧ nb.li.length = nl2 ∧ nb.ls.length = nt2) := ⟨hn1, hn2, hn3, hn4, hn5⟩
   clear hnb hn1 hn2 hn3 hn4 hn5 hfb F HNb HOb HDv HRz HBw HPN HPL hkl
   have hHB := HB_40.out.alloc HB_40.out.size (.cells #[.int .i64 kk, .int .i64 mm, .int .i64 ll] 40)
   have hN := N_40.out.later (balloc wr (.cells #[.int .i64 kk, .int .i64 mm, .int .i64 ll] 40))
   have hR := R_40.out.later (balloc wr (.cells #[.int .i64 kk, .int .i64 mm, .int .i64 ll] 40))
   have hOB := OB_40.out.later (balloc wr (.cells #[.int .i64 kk, .int .i64 mm, .int .i64 ll] 40))
   have hDV := DV_40.out.later (balloc wr (.cells #[.int .i64 kk, .int .i64 mm, .int .i64 ll] 40))
   have hS := x3_new wr (.int .i64 kk) (.int .i64 mm) (.int .i64 ll) 40 wr.heap.size rfl
   have hz : (wr.alloc (.cells #[.int .i64 kk, .int .i64 mm, .int .i64 ll] 40)).heap.size = wr.heap.size + 1 := by simp
   obtain ⟨w41, hV41⟩ : ∃ V, wr.alloc (.cells #[.int .i64 kk, .int .i64 mm, .int .i64 ll] 40) = V := ⟨_, rfl⟩
   rw [hV41] at hHB hN hR hOB hDV hS hz
   have HB_41 : Hid (Below w.heap.size w w41) := hHB
   have N_41 : Hid (X5 w41 w2.heap.size (.int .i64 f) (.int .i64 e) (.slice sa sn sc) (.slice la ln lcx) (.slice ta tn tc)) := hN
   have R_41 : Hid (X5 w41 w.heap.size (.int .i64 0) (.int .i64 0) (.slice none 0 0) (.slice none 0 0) (.slice none 0 0)) := hR
   have OB_41 : Hid (OwnBd w41 (w.heap.size + 1) wr.heap.size (.slice sa sn sc) (.slice la ln lcx) (.slice ta tn tc) ⟨f, e, sg, li, ls⟩) := hOB
   have DV_41 : Hid (OwnB w41 w3.heap.size u11 dd) := hDV
   have S_41 : Hid (X3 w41 wr.heap.size (.int .i64 kk) (.int .i64 mm) (.int .i64 ll)) := hS
   have z41 : wr.heap.size + 1 ≤ w41.heap.size := by omega
   clear HB_40 N_40 R_40 OB_40 DV_40 hHB hN hR hOB hDV hS hz
   obtain ⟨⟨Nq0, Nq1, Nq2, Nq3, Nq4⟩, Nf⟩ := id (N_41.out)
   clear Nf
   obtain ⟨⟨Sq0, Sq1, Sq2⟩, Sf⟩ := id (S_41.out)
   clear Sf
   go_upto_region 8 with fail
   clear hV41
   clear Nq0 Nq1 Nq2 Nq3 Nq4
   clear Sq0 Sq1 Sq2
   refine wp_mono (pbReg8_w _ _ _ _ _ _ _ _ _ _ _ _ _ _ _ _ _ _ _ _ _ _ _ _ _ _ _ _ _ _ _ _ _ _ _ _ _ _ _ _ _ _ _ _ _ _ _ _ _ _ _ w2.heap.size wr.heap.size f e sa sn sc la ln lcx ta tn tc sg li ls kk mm ll nf2 ne2 ns2 nl2 nt2 nb true _ w41 N_41.out S_41.out OB_41.out.read qO qS (fun sa1 sc1 la1 lc1 ta1 tc1 sa2 sc2 la2 lc3 ta2 tc2 g8 w42 h8 ho8 hbb hl8 => ?_)) (fun e a w h => by cases e <;> first | exact h | exact h.elim)
   have HB_42 : Hid (Below w.heap.size w w42) := HB_41.out.trans (hbb.mono HB_41.out.size)
   have N_42 : Hid (X5 w42 w2.heap.size (.int .i64 f) (.int .i64 e) (.slice sa sn sc) (.slice la ln lcx) (.slice ta tn tc)) := N_41.out.later hbb
   have R_42 : Hid (X5 w42 w.heap.size (.int .i64 0) (.int .i64 0) (.slice none 0 0) (.slice none 0 0) (.slice none 0 0)) := R_41.out.later hbb
   have OB_42 : Hid (OwnBd w42 (w.heap.size + 1) wr.heap.size (.slice sa sn sc) (.slice la ln lcx) (.slice ta tn tc) ⟨f, e, sg, li, ls⟩) := OB_41.out.later hbb
   have DV_42 : Hid (OwnB w42 w3.heap.size u11 dd) := DV_41.out.later hbb
   have S_42 : Hid (X3 w42 wr.heap.size (.int .i64 kk) (.int .i64 mm) (.int .i64 ll)) := S_41.out.later hbb
   have z42 : w41.heap.size ≤ w42.heap.size := hbb.size
   have l8 : g8 < w42.heap.size := h8.lt
   have X_42 : Hid (X5 w42 g8 (.int .i64 nf2) (.int .i64 ne2) (.slice sa2 ns2 sc2) (.slice la2 nl2 lc3) (.slice ta2 nt2 tc2)) := h8
   have NB_42 : Hid (OwnBd w42 w41.heap.size w42.heap.size (.slice sa2 ns2 sc2) (.slice la2 nl2 lc3) (.slice ta2 nt2 tc2) nb) := ho8
   clear h8 ho8 hbb qO qS HB_41 N_41 R_41 OB_41 DV_41 S_41
   clear S_42
   clear OB_42
   obtain ⟨⟨Xq0, Xq1, Xq2, Xq3, Xq4⟩, Xf⟩ := id (X_42.out)
   clear Xf
   have hN := (((((N_42.out.set0 (.int .i64 nf2)).set1 (.int .i64 ne2)).set2 (.slice sa2 ns2 sc2)).set3 (.slice la2 nl2 lc3)).set4 (.slice ta2 nt2 tc2))
   have hHB : Below w.heap.size w (((((w42.setCell ⟨w2.heap.size, 0, none⟩ (.int .i64 nf2)).setCell ⟨w2.heap.size, 1, none⟩ (.int .i64 ne2)).setCell ⟨w2.heap.size, 2, none⟩ (.slice sa2 ns2 sc2)).setCell ⟨w2.heap.size, 3, none⟩ (.slice la2 nl2 lc3)).setCell ⟨w2.heap.size, 4, none⟩ (.slice ta2 nt2 tc2)) := (((((HB_42.out.setCell (by show w.heap.size ≤ w2.heap.size; omega) _).setCell (by show w.heap.size ≤ w2.heap.size; omega) _).setCell (by show w.heap.size ≤ w2.heap.size; omega) _).setCell (by show w.heap.size ≤ w2.heap.size; omega) _).setCell (by show w.heap.size ≤ w2.heap.size; omega) _)
   have hR := (((((R_42.out.other (r' := w2.heap.size) (j' := 0) (u := .int .i64 nf2) (by omega)).other (r' := w2.heap.size) (j' := 1) (u := .int .i64 ne2) (by omega)).other (r' := w2.heap.size) (j' := 2) (u := .slice sa2 ns2 sc2) (by omega)).other (r' := w2.heap.size) (j' := 3) (u := .slice la2 nl2 lc3) (by omega)).other (r' := w2.heap.size) (j' := 4) (u := .slice ta2 nt2 tc2) (by omega))
   have hDV := (((((DV_42.out.setBox (r := w2.heap.size) (j := 0) (by omega) (.int .i64 nf2)).setBox (r := w2.heap.size) (j := 1) (by omega) (.int .i64 ne2)).setBox (r := w2.heap.size) (j := 2) (by omega) (.slice sa2 ns2 sc2)).setBox (r := w2.heap.size) (j := 3) (by omega) (.slice la2 nl2 lc3)).setBox (r := w2.heap.size) (j := 4) (by omega) (.slice ta2 nt2 tc2))
   have hX := (((((X_42.out.other (r' := w2.heap.size) (j' := 0) (u := .int .i64 nf2) (by omega)).other (r' := w2.heap.size) (j' := 1) (u := .int .i64 ne2) (by omega)).other (r' := w2.heap.size) (j' := 2) (u := .slice sa2 ns2 sc2) (by omega)).other (r' := w2.heap.size) (j' := 3) (u := .slice la2 nl2 lc3) (by omega)).other (r' := w2.heap.size) (j' := 4) (u := .slice ta2 nt2 tc2) (by omega))
   have hNB := (((((NB_42.out.cell (r := w2.heap.size) (j := 0) (by omega) (.int .i64 nf2)).cell (r := w2.heap.size) (j := 1) (by omega) (.int .i64 ne2)).cell (r := w2.heap.size) (j := 2) (by omega) (.slice sa2 ns2 sc2)).cell (r := w2.heap.size) (j := 3) (by omega) (.slice la2 nl2 lc3)).cell (r := w2.heap.size) (j := 4) (by omega) (.slice ta2 nt2 tc2))
   have hz : (((((w42.setCell ⟨w2.heap.size, 0, none⟩ (.int .i64 nf2)).setCell ⟨w2.heap.size, 1, none⟩ (.int .i64 ne2)).setCell ⟨w2.heap.size, 2, none⟩ (.slice sa2 ns2 sc2)).setCell ⟨w2.heap.size, 3, none⟩ (.slice la2 nl2 lc3)).setCell ⟨w2.heap.size, 4, none⟩ (.slice ta2 nt2 tc2)).heap.size = w42.heap.size := by simp
   obtain ⟨w43, hV43⟩ : ∃ V, (((((w42.setCell ⟨w2.heap.size, 0, none⟩ (.int .i64 nf2)).setCell ⟨w2.heap.size, 1, none⟩ (.int .i64 ne2)).setCell ⟨w2.heap.size, 2, none⟩ (.slice sa2 ns2 sc2)).setCell ⟨w2.heap.size, 3, none⟩ (.slice la2 nl2 lc3)).setCell ⟨w2.heap.size, 4, none⟩ (.slice ta2 nt2 tc2)) = V := ⟨_, rfl⟩
   rw [hV43] at hN hHB hR hDV hX hNB hz
   have N_43 : Hid (X5 w43 (w2.heap.size) (.int .i64 nf2) (.int .i64 ne2) (.slice sa2 ns2 sc2) (.slice la2 nl2 lc3) (.slice ta2 nt2 tc2)) := hN
   have HB_43 : Hid (Below w.heap.size w w43) := hHB
   have R_43 : Hid (X5 w43 w.heap.size (.int .i64 0) (.int .i64 0) (.slice none 0 0) (.slice none 0 0) (.slice none 0 0)) := hR
   have DV_43 : Hid (OwnB w43 w3.heap.size u11 dd) := hDV
   have X_43 : Hid (X5 w43 g8 (.int .i64 nf2) (.int .i64 ne2) (.slice sa2 ns2 sc2) (.slice la2 nl2 lc3) (.slice ta2 nt2 tc2)) := hX
   have NB_43 : Hid (OwnBd w43 w41.heap.size w42.heap.size (.slice sa2 ns2 sc2) (.slice la2 nl2 lc3) (.slice ta2 nt2 tc2) nb) := hNB
   have z43 : w42.heap.size ≤ w43.heap.size := by omega
   obtain ⟨⟨oN0, oN1, oN2, oN3, oN4⟩, oNf⟩ := id (N_42.out)
   have oNf0 := oNf 0
   have oNf1 := oNf 1
   have oNf2 := oNf 2
   have oNf3 := oNf 3
   have oNf4 := oNf 4
   clear oNf hz hN hHB hR hDV hX hNB
   have bA := balloc w43 (.cells #[.bool true] 4)
   have zA : (w43.alloc (.cells #[.bool true] 4)).heap.size = w43.heap.size + 1 := by simp
   have hDA := DV_43.out.later bA
   obtain ⟨v', w44, r1, o1, gg, _⟩ := appendB_run (w43.alloc (.cells #[.bool true] 4)) w3.heap.size u11 dd [true] (some ⟨w43.heap.size, 0, none⟩) 1 1 hDA (litB w43 true) rfl (fun e => by cases e) (by rw [HDL.out]; simp; omega) (by omega)
   have hzg := gg.size
   have hbx : ∀ q, u11.ownBlock = some q → BoxT (w43.alloc (.cells #[.bool true] 4)) q := fun q hq => OwnB.boxT hDA hq
   have HB_44 : Hid (Below w.heap.size w w44) := Below.grown (HB_43.out.alloc HB_43.out.size _) gg (by have := HB_43.out.size; omega) (fun q e => by have := I_DV.out q e; have := HBS.out; omega)
   have N_44 : Hid (X5 w44 (w2.heap.size) (.int .i64 nf2) (.int .i64 ne2) (.slice sa2 ns2 sc2) (.slice la2 nl2 lc3) (.slice ta2 nt2 tc2)) := (N_43.out.later bA).grown gg (fun e => by have := I_DV.out _ e.symm; omega)
   have R_44 : Hid (X5 w44 w.heap.size (.int .i64 0) (.int .i64 0) (.slice none 0 0) (.slice none 0 0) (.slice none 0 0)) := (R_43.out.later bA).grown gg (fun e => by have := I_DV.out _ e.symm; omega)
   have X_44 : Hid (X5 w44 g8 (.int .i64 nf2) (.int .i64 ne2) (.slice sa2 ns2 sc2) (.slice la2 nl2 lc3) (.slice ta2 nt2 tc2)) := (X_43.out.later bA).grown gg (fun e => by have := I_DV.out _ e.symm; omega)
   have NB_44 : Hid (OwnBd w44 w41.heap.size w42.heap.size (.slice sa2 ns2 sc2) (.slice la2 nl2 lc3) (.slice ta2 nt2 tc2) nb) := (NB_43.out.later bA).grownBox gg hbx
   have DV_44 : Hid (OwnB w44 w3.heap.size v' (dd ++ [true])) := o1
   have z44 : w43.heap.size ≤ w44.heap.size := by omega
   clear bA zA hDA hzg hbx o1 gg HB_43 N_43 R_43 DV_43 X_43 NB_43
   go_wp2_with (first | (at_builtin; refine Lib.wpList_append_run _ rfl _ _ _ _ rfl _ _ rfl rfl _ _ (r1 _) ?_; clear r1) | fail)
   clear hV43
   go_roundw
   case rel =>
    obtain ⟨f3, e3, g3, i3, j3⟩ := nb
    obtain ⟨rfl, rfl, h3, h4, h5⟩ := HNN.out
    exact ⟨k + 1, f3, e3, sa2, ns2, sc2, la2, nl2, lc3, ta2, nt2, tc2, g3, i3, j3, dd ++ [true], by omega, by go_num, HPS, ⟨h3, h4, h5⟩, N_44.out, NB_44.out.mono (by omega) (by omega), DV_44.out, R_44.out, HB_44.out, (by omega : w3.heap.size ≤ w44.heap.size)⟩
   case measure => simp [intOf]; omega

theorem specPlay_c (f0 : Int) (pa : Option Addr) (pn pc : Nat) (lo : Option Addr) (n lc : Nat) (qi : List Int) (l : List (Int × Int × Int)) (w : World) (hp : qi.length = pn) (hpn : pn ≤ 1048576) (hx : l.length = n) (hn0 : n ≤ 1048576) (hrl : Rd w pa qi) (hz : pa = none → pn = 0 ∧ pc = 0) (hrt : RdT w lo l) :
  Calls Try.prog 14 #[.int .i64 f0, .slice pa pn pc, .slice lo n lc] w fun r w' => PbOk r w w' (pbV f0 qi l) (pbOk f0 qi l.length) := by
 cases hc : couB f0 qi
 ·exact specPlay_no1 f0 pa pn pc lo n lc qi l w hp hpn hx hn0 hrl hz hrt hc
 by_cases hn : n ≤ 60
 ·exact specPlay_yes f0 pa pn pc lo n lc qi l w hp hpn hx hn0 hrl hz hrt hc hn
 ·exact specPlay_no2 f0 pa pn pc lo n lc qi l w hp hpn hx hn0 hrl hz hrt hc (by omega)

end Go.Proofs.Ytaokmjbhgkfnfaa
