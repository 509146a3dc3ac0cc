/- Chapter 10, the program: PlayCover. -/
import Derived.Test.YteopaocomfepfaaPS10
namespace Go.Proofs.Yteopaocomfepfaa
set_option linter.unusedVariables false
set_option maxRecDepth 1000000
set_option linter.unusedSimpArgs false
open Go.RowKit Go.Conc

theorem bytesOut : ∃ i, Try.prog.info? 113 = some i ∧ i.bytes = 40 := by
  have h : (Try.prog.info? 113).map (·.bytes) = some 40 := by kernel_rfl
  obtain ⟨i, hi, hb⟩ := Option.map_eq_some_iff.1 h
  exact ⟨i, hi, hb⟩
theorem mkOut (n : Nat) (hn : n ≤ 80) (w : World) : (Instr.makeChan 90 (.int .i64 (n : Int))).run Try.prog w = .ok (.chan (some w.heap.size)) (w.alloc (.chan n #[] false 0 0 false)) := by
  obtain ⟨i, hi, hb⟩ := bytesOut
  exact run_makeChan (P := Try.prog) (w := w) Try.underlying90 hi .i64 n (by omega) (by rw [hb]; omega)

theorem playF_no {y : Int} {l : List (Int × ByteArray)} (h : ¬ (waysB y = true ∧ l.length ≤ 80)) : playF y l = ([], [], [], false) := by unfold playF; rw [if_neg h]
theorem playF_yes {y : Int} {l : List (Int × ByteArray)} (h : waysB y = true ∧ l.length ≤ 80) : playF y l = ((playV y l).em, (playV y l).tx, (playV y l).did, true) := by unfold playF; rw [if_pos h]
theorem OwnB.nilq (w : World) (base : Nat) : OwnB w base (.slice none 0 0) [] := World.ownsRow_nil _ _ _ _

set_option maxHeartbeats 4000000 in
theorem implPlay_no (y : Int) (lo : Option Addr) (n lc : Nat) (w : World) (hn : n ≤ 17592186044416) (h : ¬ (waysB y = true ∧ n ≤ 80)) :
    Calls Try.prog 13 #[.int .i64 y, .slice lo n lc] w fun e w' => e = .returned (.tuple #[.slice none 0 0, .slice none 0 0, .slice none 0 0, .bool false]) ∧ Below w.heap.size w w' := by
  have q0 := implNew_c y w
  generalize (if waysB y = true then y else 0) = ly at q0
  cases hb : waysB y with
  | false =>
    rw [hb] at q0
    go_enter Try.func13, Try.ntmps13
    go_wp2_with fail
    refine q0.mono ?_
    clear q0
    rintro e w1 ⟨rfl, hB⟩
    have HB : Hid (Below w.heap.size w (w1.alloc (.cells #[.slice none 0 0, .int .i64 0, .int .i64 ly] 45))) := hB.alloc hB.size _
    clear hB
    go_wp2
    refine bodyPost_ret (v := .tuple #[.slice none 0 0, .slice none 0 0, .slice none 0 0, .bool false]) (by simp [results, Try.results13, go_sem]; try rfl) rfl ?_
    exact ⟨rfl, HB.out⟩
  | true =>
    have h8 : (80 : Int) < (n : Int) := by
      have : ¬ n ≤ 80 := fun e => h ⟨hb, e⟩
      omega
    rw [hb] at q0
    go_enter Try.func13, Try.ntmps13
    go_wp2_with fail
    refine q0.mono ?_
    clear q0
    rintro e w1 ⟨rfl, hB⟩
    have HB : Hid (Below w.heap.size w (w1.alloc (.cells #[.slice none 0 0, .int .i64 0, .int .i64 ly] 45))) := hB.alloc hB.size _
    clear hB
    go_wp2
    refine bodyPost_ret (v := .tuple #[.slice none 0 0, .slice none 0 0, .slice none 0 0, .bool false]) (by simp [results, Try.results13, go_sem]; try rfl) rfl ?_
    exact ⟨rfl, HB.out⟩

set_option maxHeartbeats 8000000 in
theorem implPlay_yes (y : Int) (lo : Option Addr) (n lc : Nat) (l : List (Int × ByteArray)) (w : World) (hx : l.length = n) (hy : waysB y = true) (hn : n ≤ 80) (hr : RdK w lo l) (hz : ∀ x ∈ l, x.2.size ≤ 9223372036854775807) (p : Nat) (hp : (playV y l).em.length = p) :
    Calls Try.prog 13 #[.int .i64 y, .slice lo n lc] w fun e w' => ∃ a1 c1 a2 c2 a3 c3, e = .returned (.tuple #[.slice a1 p c1, .slice a2 p c2, .slice a3 n c3, .bool true]) ∧ OwnE w' w.heap.size (.slice a1 p c1) (playV y l).em ∧ OwnS w' w.heap.size (.slice a2 p c2) (playV y l).tx ∧ OwnB w' w.heap.size (.slice a3 n c3) (playV y l).did ∧ Below w.heap.size w w' := by
  have hpo := pl_take hy l n (by omega)
  rw [List.take_of_length_le (by omega)] at hpo
  have q0 := implNew_c y w
  rw [if_pos hy, hy] at q0
  have hmk := mkOut n hn
  have htx : (playV y l).tx.length = p := by rw [hpo.tx, hp]
  have hp8 : p ≤ 80 := by have := hpo.em; omega
  have hn8 : ¬ (80 : Int) < (n : Int) := by omega
  go_enter Try.func13, Try.ntmps13
  go_wp2_with fail
  refine q0.mono ?_
  clear q0
  rintro e w1 ⟨rfl, hB⟩
  have bB := hB.alloc hB.size (.cells #[.slice none 0 0, .int .i64 0, .int .i64 y] 45)
  have cC := x3_new w1 (.slice none 0 0) (.int .i64 0) (.int .i64 y) 45 w1.heap.size rfl
  obtain ⟨w2, hw2⟩ : ∃ V, w1.alloc (.cells #[.slice none 0 0, .int .i64 0, .int .i64 y] 45) = V := ⟨_, rfl⟩
  rw [hw2] at bB cC
  have b3 := balloc w2 (.chan n #[] false 0 0 false)
  have cC3 := cC.later b3
  have bB3 := bB.alloc bB.size (.chan n #[] false 0 0 false)
  have hch : Chan (w2.alloc (.chan n #[] false 0 0 false)) w2.heap.size n [] := ⟨0, 0, heap_alloc_new w2 _⟩
  obtain ⟨w3, hw3⟩ : ∃ V, w2.alloc (.chan n #[] false 0 0 false) = V := ⟨_, rfl⟩
  rw [hw3] at b3 cC3 bB3 hch
  have q1 := playSteps_c lo n lc w2.heap.size n w2.heap.size y l w3 hx hn hy (Nat.le_refl _) (fun wx hb => hr.later (bB3.trans (hb.mono bB.size))) hz hch (Nat.le_refl _)
  have HB3 : Hid (Below w.heap.size w w3) := bB3
  have HZ3 : Hid (w2.heap.size < w3.heap.size) := hch.lt
  have Hz : Hid (w.heap.size ≤ w2.heap.size ∧ w2.heap.size ≤ w3.heap.size) := ⟨bB.size, b3.size⟩
  obtain ⟨⟨c0, c1', c2'⟩, cf⟩ := cC
  obtain ⟨⟨d0, d1, d2⟩, df⟩ := cC3
  clear hB bB b3 bB3 hch cf df
  go_wp2_with fail
  refine q1.mono ?_
  clear q1 hw2 hw3 hmk c0 c1' c2' d0 d1 d2
  rintro e w4 ⟨a3, c3, rfl, ho3, hc4, hb4⟩
  have q2 := takeAll_c w2.heap.size n w2.heap.size (playV y l).em (playV y l).tx w4 p hp htx (by omega) hc4 (Nat.le_refl _)
  have HO3 : Hid (OwnB w4 w3.heap.size (.slice a3 n c3) (playV y l).did) := ho3
  have HB4 : Hid (Below w.heap.size w w4) := HB3.out.trans (hb4.mono Hz.out.1)
  have HZ4 : Hid (w3.heap.size ≤ w4.heap.size) := hb4.size
  clear ho3 hc4 hb4
  go_wp2_with fail
  refine q2.mono ?_
  clear q2
  rintro e w5 ⟨a1, c1, a2, c2, rfl, ho1, ho2, hb5, hg5⟩
  have HO1 : Hid (OwnE w5 w.heap.size (.slice a1 p c1) (playV y l).em) := ho1.mono (by have := Hz.out; have := HZ4.out; omega)
  have HO2 : Hid (OwnS w5 w.heap.size (.slice a2 p c2) (playV y l).tx) := ho2.mono (by have := Hz.out; have := HZ4.out; omega)
  have HB5 : Hid (Below w.heap.size w w5) := HB4.out.trans (hb5.mono Hz.out.1)
  have HO3' : Hid (OwnB w5 w.heap.size (.slice a3 n c3) (playV y l).did) := by
    have h := HO3.out
    exact (h.kept hg5 (by
      cases hv : (Value.slice a3 n c3).ownBlock with
      | none => exact Or.inl rfl
      | some k => exact Or.inr fun e => by simp at e; have := own_block_geB h k hv; have := HZ3.out; omega)).mono (by have := Hz.out; omega)
  clear ho1 ho2 hb5 hg5
  go_wp2
  refine bodyPost_ret (v := .tuple #[.slice a1 p c1, .slice a2 p c2, .slice a3 n c3, .bool true]) (by simp [results, Try.results13, go_sem]; try rfl) rfl ?_
  exact ⟨a1, c1, a2, c2, a3, c3, rfl, HO1.out, HO2.out, HO3'.out, HB5.out⟩

end Go.Proofs.Yteopaocomfepfaa
