/- What chapter 10 draws: texts, steps. Nothing is said of a drawn step but that its kind is from 0 to 3 and its text has at most 16 bytes. -/
import Derived.Test.YteopaocomfepfaaD3G
import Derived.Test.YteopaocomfepfaaAP10
namespace Go.Proofs.Yteopaocomfepfaa
set_option linter.unusedVariables false
set_option maxRecDepth 1000000
set_option linter.unusedSimpArgs false
open Go.RowKit

theorem of_c (P : ByteArray → Prop) (g : Nat) (ao : Option Addr) (n c : Nat) (M : Int) (r k : Nat) (w : World) (hM : M ≤ 3000000000000000000) (hk : 1 ≤ k ∧ k ≤ 1000) (hc : ∀ j, j < k → ∃ s : ByteArray, w.cell? ⟨r, j, none⟩ = some (.string s) ∧ P s) (hrg : r ≠ g) (h : Cur w g ao n c M) :
    Calls Try.prog 70 #[.pointer (some ⟨g, 0, none⟩), .slice (some ⟨r, 0, none⟩) k k] w fun e w' => ∃ s : ByteArray, e = .returned (.string s) ∧ P s ∧ Cur w' g ao n c (M + 2) ∧ GB g w w' := by
  have HC : Hid (Cur w g ao n c M) := h
  have HR : Hid (∀ j, j < k → ∃ s : ByteArray, w.cell? ⟨r, j, none⟩ = some (.string s) ∧ P s) := hc
  obtain ⟨hk1, hk2⟩ := hk
  have kk : (1 : Int) ≤ (k : Int) ∧ (k : Int) ≤ 1000000 := by omega
  have HNE : Hid (¬ some r = some g) := by show ¬ _; simpa using hrg
  clear h hc hrg
  go_enter Try.func70, Try.ntmps70
  go_wp2_with fail
  refine (pick_c g ao n c M k _ hM kk HC.out).mono ?_
  rintro e w1 ⟨z, rfl, hz0, hz1, hc1, hg1⟩
  obtain ⟨j, rfl⟩ : ∃ j : Nat, z = j := ⟨z.toNat, by omega⟩
  obtain ⟨s, hs, hs2⟩ := HR.out j (by omega)
  have q1 : w1.cell? ⟨r, j, none⟩ = some (.string s) := by have h := hg1.cell (a := ⟨r, j, none⟩) hs HNE.out; simpa using h
  have HC1 : Hid (Cur w1 g ao n c (M + 2)) := hc1
  have HG1 : Hid (GB g w w1) := hg1
  have HS2 : Hid (P s) := hs2
  clear hc1 hg1 HC hs HR hs2
  go_wp2
  go_ret
  exact ⟨s, rfl, HS2.out, HC1.out, HG1.out⟩

def allT (P : ByteArray → Prop) : List Value → Prop
  | [] => True
  | .string s :: r => P s ∧ allT P r
  | _ :: _ => False
theorem allT_at {P : ByteArray → Prop} : ∀ {l : List Value} {j : Nat}, allT P l → j < l.length → ∃ s : ByteArray, l[j]? = some (.string s) ∧ P s
  | .string s :: r, 0, h, _ => ⟨s, rfl, h.1⟩
  | .string s :: r, j + 1, h, hj => by
    obtain ⟨y', h1, h2⟩ := allT_at (j := j) h.2 (by simpa using hj)
    exact ⟨y', by simpa using h1, h2⟩
theorem litP_cells (P : ByteArray → Prop) (w : World) (cs : Array Value) (t : TypeId) (k : Nat) (hk : cs.size = k) (h : allT P cs.toList) : ∀ j, j < k → ∃ s : ByteArray, (w.alloc (.cells cs t)).cell? ⟨w.heap.size, j, none⟩ = some (.string s) ∧ P s := fun j hj => by
  obtain ⟨y, h1, h2⟩ := allT_at (j := j) h (by simpa [← hk] using hj)
  refine ⟨y, ?_, h2⟩
  rw [World.cell?_alloc_new]
  · simpa using h1

def StepOk (x : Int × ByteArray) : Prop := 0 ≤ x.1 ∧ x.1 ≤ 3 ∧ x.2.size ≤ 16
def Short (s : ByteArray) : Prop := s.size ≤ 16

theorem sepK {w : World} {base g : Nat} {v : Value} {xs : List (Int × ByteArray)} (h : OwnK w base v xs) (hg : g < base) : v.ownBlock = none ∨ v.ownBlock ≠ some g := by
  rcases hb : v.ownBlock with _ | b
  · exact Or.inl rfl
  · exact Or.inr (fun e => by have := own_block_geK h b hb; simp at e; omega)

/-- A list that grows by one step beside a cursor: all that is known of it, ahead of the walk. -/
theorem grow_runK {w wr : World} {g B n c p : Nat} {ao : Option Addr} {M : Int} {u : Value} {xs : List (Int × ByteArray)} (x : Int) (s : ByteArray) (hgB : g < B) (hOB : Old ao n B) (hW : w.heap.size = B) (hB : B ≤ wr.heap.size) (hX : xs.length = p) (hp : p ≤ 1000) (hY : OwnK wr B u xs) (hC : Cur wr g ao n c M) (hG : GB g w wr) :
    ∃ a' c' w', (∀ ty, (Builtin.append_ #[23, 23] ty #[u, .slice (some ⟨wr.heap.size, 0, none⟩) 1 1]).run Try.prog (wr.alloc (.cells #[.int .i64 x, .string s] 39)) = .ok (.slice a' (p + 1) c') w') ∧ OwnK w' B (.slice a' (p + 1) c') (xs ++ [(x, s)]) ∧ Cur w' g ao n c M ∧ GB g w w' ∧ B ≤ w'.heap.size := by
  have bA := balloc wr (.cells #[.int .i64 x, .string s] 39)
  obtain ⟨v', w', r1, o1, g1, b1⟩ := appendK_run (wr.alloc (.cells #[.int .i64 x, .string s] 39)) B u xs [(x, s)] (some ⟨wr.heap.size, 0, none⟩) 1 1 (hY.later bA) (litK wr x s) rfl (fun e => by cases e) (by omega) (Nat.le_trans hB bA.size)
  obtain ⟨a', c', hv⟩ := o1.shape
  rw [show (xs ++ [(x, s)]).length = p + 1 by rw [List.length_append, hX]; rfl] at hv
  subst hv
  have hob : ∀ k', u.ownBlock = some k' → B ≤ k' := own_block_geK hY
  exact ⟨a', c', w', r1, o1, (hC.alloc _).grown g1 hob hgB hOB, (hG.alloc _).grown g1 (fun k hk => by have := hob k hk; omega), Nat.le_trans hB (Nat.le_trans bA.size g1.size)⟩

theorem litT_short (w : World) (r : Nat) (hr : r = w.heap.size) : ∀ j, j < 5 → ∃ s : ByteArray, (w.alloc (.cells #[.string ⟨#[97]⟩, .string ⟨#[98]⟩, .string ⟨#[]⟩, .string ⟨#[102, 105, 102, 116, 101, 101, 110, 32, 98, 121, 116, 101, 115, 46, 46]⟩, .string ⟨#[115, 105, 120, 116, 101, 101, 110, 32, 98, 121, 116, 101, 115, 46, 46, 46]⟩] 9)).cell? ⟨r, j, none⟩ = some (.string s) ∧ Short s :=
  hr ▸ litP_cells Short w _ 9 5 rfl ⟨by unfold Short; decide, by unfold Short; decide, by unfold Short; decide, by unfold Short; decide, by unfold Short; decide, trivial⟩

/-- A list of steps that grows, and the step under way in its box r, beside a cursor. -/
structure DSt (w wr : World) (g B n c r : Nat) (ao : Option Addr) (M : Int) (u : Value) (xs : List (Int × ByteArray)) (x : Int) (s : ByteArray) : Prop where
  cur : Cur wr g ao n c M
  gb : GB g w wr
  own : OwnK wr B u xs
  box : X2 wr r (.int .i64 x) (.string s)
  size : B ≤ wr.heap.size
  rB : B ≤ r
  sep : u.ownBlock = none ∨ u.ownBlock ≠ some r
theorem DSt.new {w wr : World} {g B n c : Nat} {ao : Option Addr} {M : Int} {u : Value} {xs : List (Int × ByteArray)} (x : Int) (s : ByteArray) (t : TypeId) (hC : Cur wr g ao n c M) (hG : GB g w wr) (hY : OwnK wr B u xs) (hB : B ≤ wr.heap.size) : DSt w (wr.alloc (.cells #[.int .i64 x, .string s] t)) g B n c wr.heap.size ao M u xs x s :=
  ⟨hC.alloc _, hG.alloc _, hY.later (balloc _ _), x2_new _ _ _ _ _ rfl, Nat.le_trans hB (balloc _ _).size, hB, by
    rcases hb : u.ownBlock with _ | b
    · exact Or.inl rfl
    · exact Or.inr (fun e => by have := (World.ownsRow.lt hY b hb).2; simp at e; omega)⟩
theorem DSt.alloc {w wr : World} {g B n c r : Nat} {ao : Option Addr} {M : Int} {u : Value} {xs : List (Int × ByteArray)} {x : Int} {s : ByteArray} (h : DSt w wr g B n c r ao M u xs x s) (o : Obj) : DSt w (wr.alloc o) g B n c r ao M u xs x s :=
  ⟨h.cur.alloc _, h.gb.alloc _, h.own.later (balloc _ _), h.box.later (balloc _ _), Nat.le_trans h.size (balloc _ _).size, h.rB, h.sep⟩
theorem DSt.drew {w wr wr' : World} {g B n c r : Nat} {ao : Option Addr} {M M' : Int} {u : Value} {xs : List (Int × ByteArray)} {x : Int} {s : ByteArray} (h : DSt w wr g B n c r ao M u xs x s) (hgB : g < B) (hC : Cur wr' g ao n c M') (hG : GB g wr wr') : DSt w wr' g B n c r ao M' u xs x s :=
  ⟨hC, h.gb.trans hG, h.own.kept hG (sepK h.own hgB), h.box.grown hG (fun e => by have := h.rB; simp at e; omega), Nat.le_trans h.size hG.size, h.rB, h.sep⟩
theorem DSt.grown {w wr wr' : World} {g B n c r : Nat} {ao : Option Addr} {M : Int} {u : Value} {xs : List (Int × ByteArray)} {x x' : Int} {s s' : ByteArray} (h : DSt w wr g B n c r ao M u xs x s) (hgB : g < B) (hW : w.heap.size = B) (hOB : Old ao n B) (hG : GB r wr wr') (hX : X2 wr' r (.int .i64 x') (.string s')) : DSt w wr' g B n c r ao M u xs x' s' :=
  ⟨h.cur.grown hG (fun k e => by have := h.rB; simp at e; omega) hgB hOB, h.gb.grown hG (fun k e => by have := h.rB; simp at e; omega), h.own.kept hG h.sep, hX, Nat.le_trans h.size hG.size, h.rB, h.sep⟩
theorem DSt.set1 {w wr : World} {g B n c r : Nat} {ao : Option Addr} {M : Int} {u : Value} {xs : List (Int × ByteArray)} {x : Int} {s : ByteArray} (h : DSt w wr g B n c r ao M u xs x s) (hgB : g < B) (hW : w.heap.size = B) (hOB : Old ao n B) (s' : ByteArray) : DSt w (wr.setCell ⟨r, 1, none⟩ (.string s')) g B n c r ao M u xs x s' :=
  h.grown hgB hW hOB ((GB.refl r wr).setCell 1 _) (h.box.set1 _)
theorem DSt.set0 {w wr : World} {g B n c r : Nat} {ao : Option Addr} {M : Int} {u : Value} {xs : List (Int × ByteArray)} {x : Int} {s : ByteArray} (h : DSt w wr g B n c r ao M u xs x s) (hgB : g < B) (hW : w.heap.size = B) (hOB : Old ao n B) (x' : Int) : DSt w (wr.setCell ⟨r, 0, none⟩ (.int .i64 x')) g B n c r ao M u xs x' s :=
  h.grown hgB hW hOB ((GB.refl r wr).setCell 0 _) (h.box.set0 _)

theorem DSt.grow {w wr : World} {g B n c r p : Nat} {ao : Option Addr} {M : Int} {u : Value} {xs : List (Int × ByteArray)} {x : Int} {s : ByteArray} (h : DSt w wr g B n c r ao M u xs x s) (hgB : g < B) (hW : w.heap.size = B) (hOB : Old ao n B) (hX : xs.length = p) (hp : p ≤ 1000) (H : Nat) (hH : wr.heap.size = H) :
    ∃ a' c' w', (∀ ty, (Builtin.append_ #[23, 23] ty #[u, .slice (some ⟨H, 0, none⟩) 1 1]).run Try.prog (wr.alloc (.cells #[.int .i64 x, .string s] 39)) = .ok (.slice a' (p + 1) c') w') ∧ OwnK w' B (.slice a' (p + 1) c') (xs ++ [(x, s)]) ∧ Cur w' g ao n c M ∧ GB g w w' ∧ B ≤ w'.heap.size := by
  subst hH
  exact grow_runK x s hgB hOB hW h.size hX hp h.own h.cur h.gb

set_option maxHeartbeats 1000000 in
theorem coverSteps_c (g : Nat) (ao : Option Addr) (n c : Nat) (M : Int) (w : World) (hM : M ≤ 10000) (h : Cur w g ao n c M) :
    Calls Try.prog 59 #[.pointer (some ⟨g, 0, none⟩)] w fun e w' => ∃ (a : Option Addr) (q cc : Nat) (xs : List (Int × ByteArray)), e = .returned (.slice a q cc) ∧ xs.length = q ∧ q ≤ 81 ∧ (∀ x ∈ xs, StepOk x) ∧ OwnK w' w.heap.size (.slice a q cc) xs ∧ Cur w' g ao n c (M + 1000) ∧ GB g w w' := by
  have HC : Hid (Cur w g ao n c M) := h
  obtain ⟨B, hB⟩ : ∃ B, w.heap.size = B := ⟨_, rfl⟩
  have hOB : Hid (Old ao n B) := by rw [← hB]; exact h.code.old
  have hgB : g < B := by rw [← hB]; exact h.lt
  have HEQ : Hid (w.heap.size = B) := hB
  clear h hB
  go_enter Try.func59, Try.ntmps59
  go_wp2_with fail
  refine (pick_c g ao n c M 30 _ (by omega) (by omega) HC.out).mono ?_
  rintro e w1 ⟨z, rfl, hz0', hz1', hc1, hg1⟩
  have C1 : Hid (Cur w1 g ao n c (M + 2)) := hc1
  have G1 : Hid (GB g w w1) := hg1
  clear hc1 hg1 HC
  go_wp2_with fail
  refine (one_c g ao n c (M + 2) 20 _ (by omega) (by omega) C1.out).mono ?_
  rintro e w2 ⟨b, rfl, hc1, hg1⟩
  have C2 : Hid (Cur w2 g ao n c (M + 4)) := hc1.mono (by omega)
  have G2 : Hid (GB g w w2) := G1.out.trans hg1
  clear hc1 hg1 C1 G1
  cases b with
  | false =>
    obtain ⟨n0, rfl⟩ : ∃ n0 : Nat, z = (n0 : Int) := ⟨z.toNat, by omega⟩
    have hn0 : n0 ≤ 81 := by omega
    have C3 : Hid (Cur w2 g ao n c (M + 6)) := C2.out.mono (by omega)
    have G3 : Hid (GB g w w2) := G2
    have hB3 : B ≤ w2.heap.size := by rw [← HEQ.out]; exact G2.out.size
    clear C2 G2 hz0' hz1'
    go_wp2
    go_loopw [3, 4] (fun u i wr => ∃ (k p : Nat) (xs : List (Int × ByteArray)), i = .int .i64 k ∧ p + k = n0 ∧ Hid (xs.length = p) ∧ Hid (∀ x ∈ xs, StepOk x) ∧ Hid (OwnK wr B u xs) ∧ Hid (Cur wr g ao n c (M + 10 + 8 * p)) ∧ Hid (GB g w wr) ∧ B ≤ wr.heap.size) (fun _ i _ => (intOf i).toNat)
    case atStart => exact ⟨n0, 0, [], by first | rfl | go_num, by omega, rfl, (fun l hl => absurd hl (by simp)), World.ownsRow_nil _ _ _ _, C3.out.mono (by omega), G3, hB3⟩
    case round =>
      clear C3 G3 hB3
      obtain ⟨k, p, xs, rfl, hkp, HP, HX, hY, hC, hG, hBr⟩ := hrel
      have hp4 : p ≤ 81 := by omega
      by_cases hlt : 0 < k
      · have k1 : (0 : Int) < (k : Int) := by omega
        have kk : (k : Int) ≤ 81 := by omega
        have HKP : Hid (p + k = n0 ∧ 0 < k) := ⟨hkp, hlt⟩
        clear hkp
        go_wp2_with fail
        refine (pick_c g ao n c (M + 10 + 8 * p) 2 _ (by omega) (by omega) hC.out).mono ?_
        rintro e wa ⟨z, rfl, hz0, hz1, hc1, hg1⟩
        have HC1 : Hid (Cur wa g ao n c (M + 10 + 8 * p + 2)) := hc1
        have HG1 : Hid (GB g w wa) := hG.out.trans hg1
        have HY1 : Hid (OwnK wa B u3 xs) := hY.out.kept hg1 (sepK hY.out (by omega))
        have hBa : B ≤ wa.heap.size := Nat.le_trans hBr hg1.size
        clear hc1 hg1 hC hG hY hBr
        obtain hz | hz : z = 0 ∨ z = 1 := by omega
        · subst hz
          have DA : Hid (DSt w (wa.alloc (.cells #[.int .i64 1, .string ⟨#[]⟩] 39)) g B n c wa.heap.size ao (M + 10 + 8 * p + 2) u3 xs 1 ⟨#[]⟩) := DSt.new _ _ _ HC1.out HG1.out HY1.out hBa
          clear HC1 HG1 HY1
          go_wp2_with fail
          refine (of_c Short g ao n c (M + 10 + 8 * p + 2) (wa.heap.size + 1) 5 _ (by omega) (by omega) (litT_short _ _ (by simp)) (by omega) (DA.out.cur.alloc _)).mono ?_
          rintro e wb ⟨s, rfl, hs, hc1, hg1⟩
          have DB := (DA.out.alloc _).drew hgB hc1 hg1
          have HS : Hid (Short s) := hs
          obtain ⟨⟨x0, x1⟩, xf⟩ := id DB.box
          have xf1 := xf 1
          have DC : Hid (DSt w (wb.setCell ⟨wa.heap.size, 1, none⟩ (.string s)) g B n c wa.heap.size ao (M + 10 + 8 * p + 4) u3 xs 1 s) := by have := DB.set1 hgB HEQ.out hOB.out s; exact ⟨this.cur.mono (by omega), this.gb, this.own, this.box, this.size, this.rB, this.sep⟩
          clear hc1 hg1 DA DB xf hs
          go_wp2_with fail
          refine (one_c g ao n c (M + 10 + 8 * p + 4) 40 _ (by omega) (by omega) DC.out.cur).mono ?_
          rintro e wc ⟨b, rfl, hc1, hg1⟩
          have DD := DC.out.drew hgB hc1 hg1
          clear hc1 hg1 DC
          cases b with
          | false =>
            obtain ⟨⟨x0, x1⟩, xf⟩ := id DD.box
            obtain ⟨a', c', wd, r1, o1, cb, gb, bb⟩ := grow_runK 1 s hgB hOB.out HEQ.out DD.size HP.out (by omega) DD.own DD.cur DD.gb
            have HO1 : Hid (OwnK wd B (.slice a' (p + 1) c') (xs ++ [(1, s)])) := o1
            have HC1 : Hid (Cur wd g ao n c (M + 10 + 8 * p + 8)) := cb.mono (by omega)
            have HG1 : Hid (GB g w wd) := gb
            have HX1 : Hid (∀ t ∈ xs ++ [(1, s)], StepOk t) := fun t ht => by
              rcases List.mem_append.1 ht with h | h
              · exact HX.out t h
              · rw [List.mem_singleton.1 h]; exact ⟨by show (0 : Int) ≤ 1; decide, by show (1 : Int) ≤ 3; decide, HS.out⟩
            have HL1 : Hid ((xs ++ [(1, s)]).length = p + 1) := by show _ = _; rw [List.length_append, HP.out]; rfl
            clear o1 cb gb DD HX HP xf HS
            go_wp2_with (at_builtin; refine Lib.wpList_append_run _ rfl _ _ _ _ rfl _ _ rfl rfl _ _ (r1 _) ?_; clear r1)
            go_roundw
            case rel => exact ⟨k - 1, p + 1, xs ++ [(1, s)], by have := HKP.out; go_num, by have := HKP.out; omega, HL1, HX1, HO1, HC1.out.mono (by omega), HG1, bb⟩
            case measure => have := HKP.out; simp [intOf]; omega
          | true =>
            clear HS
            go_wp2_with fail
            refine (pick_c g ao n c (M + 10 + 8 * p + 4 + 2) 4 _ (by omega) (by omega) DD.cur).mono ?_
            rintro e wd ⟨z4, rfl, hz4, hz5, hc1, hg1⟩
            have DE := DD.drew hgB hc1 hg1
            obtain ⟨⟨x0, x1⟩, xf⟩ := id DE.box
            have xf0 := xf 0
            have xf1 := xf 1
            clear hc1 hg1 DD xf
            have HDE : Hid (DSt w wd g B n c wa.heap.size ao (M + 10 + 8 * p + 4 + 2 + 2) u3 xs 1 s) := DE
            clear DE
            have DF := (HDE.out.set0 hgB HEQ.out hOB.out z4).set1 hgB HEQ.out hOB.out ⟨#[120]⟩
            obtain ⟨a', c', we, r1, o1, cb, gb, bb⟩ := DF.grow hgB HEQ.out hOB.out HP.out (by omega) wd.heap.size (by simp)
            have HO1 : Hid (OwnK we B (.slice a' (p + 1) c') (xs ++ [(z4, ⟨#[120]⟩)])) := o1
            have HC1 : Hid (Cur we g ao n c (M + 10 + 8 * p + 8)) := cb.mono (by omega)
            have HG1 : Hid (GB g w we) := gb
            have HX1 : Hid (∀ t ∈ xs ++ [(z4, (⟨#[120]⟩ : ByteArray))], StepOk t) := fun t ht => by
              rcases List.mem_append.1 ht with h | h
              · exact HX.out t h
              · rw [List.mem_singleton.1 h]; exact ⟨hz4, by show z4 ≤ 3; omega, by show (⟨#[120]⟩ : ByteArray).size ≤ 16; decide⟩
            have HL1 : Hid ((xs ++ [(z4, (⟨#[120]⟩ : ByteArray))]).length = p + 1) := by show _ = _; rw [List.length_append, HP.out]; rfl
            clear o1 cb gb DF HDE HX HP
            go_wp2_with (at_builtin; refine Lib.wpList_append_run _ rfl _ _ _ _ rfl _ _ rfl rfl _ _ (r1 _) ?_; clear r1)
            go_roundw
            case rel => exact ⟨k - 1, p + 1, xs ++ [(z4, ⟨#[120]⟩)], by have := HKP.out; go_num, by have := HKP.out; omega, HL1, HX1, HO1, HC1.out.mono (by omega), HG1, bb⟩
            case measure => have := HKP.out; simp [intOf]; omega
        · subst hz
          have DA : Hid (DSt w (wa.alloc (.cells #[.int .i64 2, .string ⟨#[]⟩] 39)) g B n c wa.heap.size ao (M + 10 + 8 * p + 2) u3 xs 2 ⟨#[]⟩) := DSt.new _ _ _ HC1.out HG1.out HY1.out hBa
          clear HC1 HG1 HY1
          have DC : Hid (DSt w (wa.alloc (.cells #[.int .i64 2, .string ⟨#[]⟩] 39)) g B n c wa.heap.size ao (M + 10 + 8 * p + 4) u3 xs 2 ⟨#[]⟩) := by have := DA.out; exact ⟨this.cur.mono (by omega), this.gb, this.own, this.box, this.size, this.rB, this.sep⟩
          have HS : Hid (Short ⟨#[]⟩) := by show Short _; unfold Short; decide
          clear DA
          go_wp2_with fail
          refine (one_c g ao n c (M + 10 + 8 * p + 4) 40 _ (by omega) (by omega) DC.out.cur).mono ?_
          rintro e wc ⟨b, rfl, hc1, hg1⟩
          have DD := DC.out.drew hgB hc1 hg1
          clear hc1 hg1 DC
          cases b with
          | false =>
            obtain ⟨⟨x0, x1⟩, xf⟩ := id DD.box
            obtain ⟨a', c', wd, r1, o1, cb, gb, bb⟩ := grow_runK 2 (⟨#[]⟩ : ByteArray) hgB hOB.out HEQ.out DD.size HP.out (by omega) DD.own DD.cur DD.gb
            have HO1 : Hid (OwnK wd B (.slice a' (p + 1) c') (xs ++ [(2, (⟨#[]⟩ : ByteArray))])) := o1
            have HC1 : Hid (Cur wd g ao n c (M + 10 + 8 * p + 8)) := cb.mono (by omega)
            have HG1 : Hid (GB g w wd) := gb
            have HX1 : Hid (∀ t ∈ xs ++ [(2, (⟨#[]⟩ : ByteArray))], StepOk t) := fun t ht => by
              rcases List.mem_append.1 ht with h | h
              · exact HX.out t h
              · rw [List.mem_singleton.1 h]; exact ⟨by show (0 : Int) ≤ 2; decide, by show (2 : Int) ≤ 3; decide, HS.out⟩
            have HL1 : Hid ((xs ++ [(2, (⟨#[]⟩ : ByteArray))]).length = p + 1) := by show _ = _; rw [List.length_append, HP.out]; rfl
            clear o1 cb gb DD HX HP xf HS
            go_wp2_with (at_builtin; refine Lib.wpList_append_run _ rfl _ _ _ _ rfl _ _ rfl rfl _ _ (r1 _) ?_; clear r1)
            go_roundw
            case rel => exact ⟨k - 1, p + 1, xs ++ [(2, (⟨#[]⟩ : ByteArray))], by have := HKP.out; go_num, by have := HKP.out; omega, HL1, HX1, HO1, HC1.out.mono (by omega), HG1, bb⟩
            case measure => have := HKP.out; simp [intOf]; omega
          | true =>
            clear HS
            go_wp2_with fail
            refine (pick_c g ao n c (M + 10 + 8 * p + 4 + 2) 4 _ (by omega) (by omega) DD.cur).mono ?_
            rintro e wd ⟨z4, rfl, hz4, hz5, hc1, hg1⟩
            have DE := DD.drew hgB hc1 hg1
            obtain ⟨⟨x0, x1⟩, xf⟩ := id DE.box
            have xf0 := xf 0
            have xf1 := xf 1
            clear hc1 hg1 DD xf
            have HDE : Hid (DSt w wd g B n c wa.heap.size ao (M + 10 + 8 * p + 4 + 2 + 2) u3 xs 2 (⟨#[]⟩ : ByteArray)) := DE
            clear DE
            have DF := (HDE.out.set0 hgB HEQ.out hOB.out z4).set1 hgB HEQ.out hOB.out ⟨#[120]⟩
            obtain ⟨a', c', we, r1, o1, cb, gb, bb⟩ := DF.grow hgB HEQ.out hOB.out HP.out (by omega) wd.heap.size (by simp)
            have HO1 : Hid (OwnK we B (.slice a' (p + 1) c') (xs ++ [(z4, ⟨#[120]⟩)])) := o1
            have HC1 : Hid (Cur we g ao n c (M + 10 + 8 * p + 8)) := cb.mono (by omega)
            have HG1 : Hid (GB g w we) := gb
            have HX1 : Hid (∀ t ∈ xs ++ [(z4, (⟨#[120]⟩ : ByteArray))], StepOk t) := fun t ht => by
              rcases List.mem_append.1 ht with h | h
              · exact HX.out t h
              · rw [List.mem_singleton.1 h]; exact ⟨hz4, by show z4 ≤ 3; omega, by show (⟨#[120]⟩ : ByteArray).size ≤ 16; decide⟩
            have HL1 : Hid ((xs ++ [(z4, (⟨#[120]⟩ : ByteArray))]).length = p + 1) := by show _ = _; rw [List.length_append, HP.out]; rfl
            clear o1 cb gb DF HDE HX HP
            go_wp2_with (at_builtin; refine Lib.wpList_append_run _ rfl _ _ _ _ rfl _ _ rfl rfl _ _ (r1 _) ?_; clear r1)
            go_roundw
            case rel => exact ⟨k - 1, p + 1, xs ++ [(z4, ⟨#[120]⟩)], by have := HKP.out; go_num, by have := HKP.out; omega, HL1, HX1, HO1, HC1.out.mono (by omega), HG1, bb⟩
            case measure => have := HKP.out; simp [intOf]; omega
      · have k1 : (k : Int) ≤ 0 := by omega
        obtain rfl : k = 0 := by omega
        obtain ⟨a2, c2, hv⟩ := hY.out.shape
        rw [HP.out] at hv
        subst hv
        have HKP : Hid (p + 0 = n0) := hkp
        clear hkp
        go_wp2
        go_ret
        exact ⟨a2, p, c2, xs, rfl, HP.out, hp4, HX.out, by rw [HEQ.out]; exact hY.out, hC.out.mono (by omega), hG.out⟩
  | true =>
    clear hz0' hz1'
    go_wp2_with fail
    refine (pick_c g ao n c (M + 4) 3 _ (by omega) (by omega) C2.out).mono ?_
    rintro e w3 ⟨z3, rfl, hz0', hz1', hc1, hg1⟩
    obtain ⟨n1, rfl⟩ : ∃ n1 : Nat, z3 = (n1 : Int) := ⟨z3.toNat, by omega⟩
    have hn1 : (n1 : Int) ≤ 2 := by omega
    have hn2 : (0 : Int) ≤ (n1 : Int) := by omega
    obtain ⟨n0, hn01⟩ : ∃ n0 : Nat, n0 = 79 + n1 := ⟨_, rfl⟩
    have hn0 : n0 ≤ 81 := by omega
    have C3 : Hid (Cur w3 g ao n c (M + 6)) := hc1.mono (by omega)
    have G3 : Hid (GB g w w3) := G2.out.trans hg1
    have hB3 : B ≤ w3.heap.size := by rw [← HEQ.out]; exact G3.out.size
    clear C2 G2 hc1 hg1
    go_wp2
    go_loopw [3, 4] (fun u i wr => ∃ (k p : Nat) (xs : List (Int × ByteArray)), i = .int .i64 k ∧ p + k = n0 ∧ Hid (xs.length = p) ∧ Hid (∀ x ∈ xs, StepOk x) ∧ Hid (OwnK wr B u xs) ∧ Hid (Cur wr g ao n c (M + 10 + 8 * p)) ∧ Hid (GB g w wr) ∧ B ≤ wr.heap.size) (fun _ i _ => (intOf i).toNat)
    case atStart => exact ⟨n0, 0, [], by first | rfl | go_num, by omega, rfl, (fun l hl => absurd hl (by simp)), World.ownsRow_nil _ _ _ _, C3.out.mono (by omega), G3, hB3⟩
    case round =>
      clear C3 G3 hB3
      obtain ⟨k, p, xs, rfl, hkp, HP, HX, hY, hC, hG, hBr⟩ := hrel
      have hp4 : p ≤ 81 := by omega
      by_cases hlt : 0 < k
      · have k1 : (0 : Int) < (k : Int) := by omega
        have kk : (k : Int) ≤ 81 := by omega
        have HKP : Hid (p + k = n0 ∧ 0 < k) := ⟨hkp, hlt⟩
        clear hkp
        go_wp2_with fail
        refine (pick_c g ao n c (M + 10 + 8 * p) 2 _ (by omega) (by omega) hC.out).mono ?_
        rintro e wa ⟨z, rfl, hz0, hz1, hc1, hg1⟩
        have HC1 : Hid (Cur wa g ao n c (M + 10 + 8 * p + 2)) := hc1
        have HG1 : Hid (GB g w wa) := hG.out.trans hg1
        have HY1 : Hid (OwnK wa B u3 xs) := hY.out.kept hg1 (sepK hY.out (by omega))
        have hBa : B ≤ wa.heap.size := Nat.le_trans hBr hg1.size
        clear hc1 hg1 hC hG hY hBr
        obtain hz | hz : z = 0 ∨ z = 1 := by omega
        · subst hz
          have DA : Hid (DSt w (wa.alloc (.cells #[.int .i64 1, .string ⟨#[]⟩] 39)) g B n c wa.heap.size ao (M + 10 + 8 * p + 2) u3 xs 1 ⟨#[]⟩) := DSt.new _ _ _ HC1.out HG1.out HY1.out hBa
          clear HC1 HG1 HY1
          go_wp2_with fail
          refine (of_c Short g ao n c (M + 10 + 8 * p + 2) (wa.heap.size + 1) 5 _ (by omega) (by omega) (litT_short _ _ (by simp)) (by omega) (DA.out.cur.alloc _)).mono ?_
          rintro e wb ⟨s, rfl, hs, hc1, hg1⟩
          have DB := (DA.out.alloc _).drew hgB hc1 hg1
          have HS : Hid (Short s) := hs
          obtain ⟨⟨x0, x1⟩, xf⟩ := id DB.box
          have xf1 := xf 1
          have DC : Hid (DSt w (wb.setCell ⟨wa.heap.size, 1, none⟩ (.string s)) g B n c wa.heap.size ao (M + 10 + 8 * p + 4) u3 xs 1 s) := by have := DB.set1 hgB HEQ.out hOB.out s; exact ⟨this.cur.mono (by omega), this.gb, this.own, this.box, this.size, this.rB, this.sep⟩
          clear hc1 hg1 DA DB xf hs
          go_wp2_with fail
          refine (one_c g ao n c (M + 10 + 8 * p + 4) 40 _ (by omega) (by omega) DC.out.cur).mono ?_
          rintro e wc ⟨b, rfl, hc1, hg1⟩
          have DD := DC.out.drew hgB hc1 hg1
          clear hc1 hg1 DC
          cases b with
          | false =>
            obtain ⟨⟨x0, x1⟩, xf⟩ := id DD.box
            obtain ⟨a', c', wd, r1, o1, cb, gb, bb⟩ := grow_runK 1 s hgB hOB.out HEQ.out DD.size HP.out (by omega) DD.own DD.cur DD.gb
            have HO1 : Hid (OwnK wd B (.slice a' (p + 1) c') (xs ++ [(1, s)])) := o1
            have HC1 : Hid (Cur wd g ao n c (M + 10 + 8 * p + 8)) := cb.mono (by omega)
            have HG1 : Hid (GB g w wd) := gb
            have HX1 : Hid (∀ t ∈ xs ++ [(1, s)], StepOk t) := fun t ht => by
              rcases List.mem_append.1 ht with h | h
              · exact HX.out t h
              · rw [List.mem_singleton.1 h]; exact ⟨by show (0 : Int) ≤ 1; decide, by show (1 : Int) ≤ 3; decide, HS.out⟩
            have HL1 : Hid ((xs ++ [(1, s)]).length = p + 1) := by show _ = _; rw [List.length_append, HP.out]; rfl
            clear o1 cb gb DD HX HP xf HS
            go_wp2_with (at_builtin; refine Lib.wpList_append_run _ rfl _ _ _ _ rfl _ _ rfl rfl _ _ (r1 _) ?_; clear r1)
            go_roundw
            case rel => exact ⟨k - 1, p + 1, xs ++ [(1, s)], by have := HKP.out; go_num, by have := HKP.out; omega, HL1, HX1, HO1, HC1.out.mono (by omega), HG1, bb⟩
            case measure => have := HKP.out; simp [intOf]; omega
          | true =>
            clear HS
            go_wp2_with fail
            refine (pick_c g ao n c (M + 10 + 8 * p + 4 + 2) 4 _ (by omega) (by omega) DD.cur).mono ?_
            rintro e wd ⟨z4, rfl, hz4, hz5, hc1, hg1⟩
            have DE := DD.drew hgB hc1 hg1
            obtain ⟨⟨x0, x1⟩, xf⟩ := id DE.box
            have xf0 := xf 0
            have xf1 := xf 1
            clear hc1 hg1 DD xf
            have HDE : Hid (DSt w wd g B n c wa.heap.size ao (M + 10 + 8 * p + 4 + 2 + 2) u3 xs 1 s) := DE
            clear DE
            have DF := (HDE.out.set0 hgB HEQ.out hOB.out z4).set1 hgB HEQ.out hOB.out ⟨#[120]⟩
            obtain ⟨a', c', we, r1, o1, cb, gb, bb⟩ := DF.grow hgB HEQ.out hOB.out HP.out (by omega) wd.heap.size (by simp)
            have HO1 : Hid (OwnK we B (.slice a' (p + 1) c') (xs ++ [(z4, ⟨#[120]⟩)])) := o1
            have HC1 : Hid (Cur we g ao n c (M + 10 + 8 * p + 8)) := cb.mono (by omega)
            have HG1 : Hid (GB g w we) := gb
            have HX1 : Hid (∀ t ∈ xs ++ [(z4, (⟨#[120]⟩ : ByteArray))], StepOk t) := fun t ht => by
              rcases List.mem_append.1 ht with h | h
              · exact HX.out t h
              · rw [List.mem_singleton.1 h]; exact ⟨hz4, by show z4 ≤ 3; omega, by show (⟨#[120]⟩ : ByteArray).size ≤ 16; decide⟩
            have HL1 : Hid ((xs ++ [(z4, (⟨#[120]⟩ : ByteArray))]).length = p + 1) := by show _ = _; rw [List.length_append, HP.out]; rfl
            clear o1 cb gb DF HDE HX HP
            go_wp2_with (at_builtin; refine Lib.wpList_append_run _ rfl _ _ _ _ rfl _ _ rfl rfl _ _ (r1 _) ?_; clear r1)
            go_roundw
            case rel => exact ⟨k - 1, p + 1, xs ++ [(z4, ⟨#[120]⟩)], by have := HKP.out; go_num, by have := HKP.out; omega, HL1, HX1, HO1, HC1.out.mono (by omega), HG1, bb⟩
            case measure => have := HKP.out; simp [intOf]; omega
        · subst hz
          have DA : Hid (DSt w (wa.alloc (.cells #[.int .i64 2, .string ⟨#[]⟩] 39)) g B n c wa.heap.size ao (M + 10 + 8 * p + 2) u3 xs 2 ⟨#[]⟩) := DSt.new _ _ _ HC1.out HG1.out HY1.out hBa
          clear HC1 HG1 HY1
          have DC : Hid (DSt w (wa.alloc (.cells #[.int .i64 2, .string ⟨#[]⟩] 39)) g B n c wa.heap.size ao (M + 10 + 8 * p + 4) u3 xs 2 ⟨#[]⟩) := by have := DA.out; exact ⟨this.cur.mono (by omega), this.gb, this.own, this.box, this.size, this.rB, this.sep⟩
          have HS : Hid (Short ⟨#[]⟩) := by show Short _; unfold Short; decide
          clear DA
          go_wp2_with fail
          refine (one_c g ao n c (M + 10 + 8 * p + 4) 40 _ (by omega) (by omega) DC.out.cur).mono ?_
          rintro e wc ⟨b, rfl, hc1, hg1⟩
          have DD := DC.out.drew hgB hc1 hg1
          clear hc1 hg1 DC
          cases b with
          | false =>
            obtain ⟨⟨x0, x1⟩, xf⟩ := id DD.box
            obtain ⟨a', c', wd, r1, o1, cb, gb, bb⟩ := grow_runK 2 (⟨#[]⟩ : ByteArray) hgB hOB.out HEQ.out DD.size HP.out (by omega) DD.own DD.cur DD.gb
            have HO1 : Hid (OwnK wd B (.slice a' (p + 1) c') (xs ++ [(2, (⟨#[]⟩ : ByteArray))])) := o1
            have HC1 : Hid (Cur wd g ao n c (M + 10 + 8 * p + 8)) := cb.mono (by omega)
            have HG1 : Hid (GB g w wd) := gb
            have HX1 : Hid (∀ t ∈ xs ++ [(2, (⟨#[]⟩ : ByteArray))], StepOk t) := fun t ht => by
              rcases List.mem_append.1 ht with h | h
              · exact HX.out t h
              · rw [List.mem_singleton.1 h]; exact ⟨by show (0 : Int) ≤ 2; decide, by show (2 : Int) ≤ 3; decide, HS.out⟩
            have HL1 : Hid ((xs ++ [(2, (⟨#[]⟩ : ByteArray))]).length = p + 1) := by show _ = _; rw [List.length_append, HP.out]; rfl
            clear o1 cb gb DD HX HP xf HS
            go_wp2_with (at_builtin; refine Lib.wpList_append_run _ rfl _ _ _ _ rfl _ _ rfl rfl _ _ (r1 _) ?_; clear r1)
            go_roundw
            case rel => exact ⟨k - 1, p + 1, xs ++ [(2, (⟨#[]⟩ : ByteArray))], by have := HKP.out; go_num, by have := HKP.out; omega, HL1, HX1, HO1, HC1.out.mono (by omega), HG1, bb⟩
            case measure => have := HKP.out; simp [intOf]; omega
          | true =>
            clear HS
            go_wp2_with fail
            refine (pick_c g ao n c (M + 10 + 8 * p + 4 + 2) 4 _ (by omega) (by omega) DD.cur).mono ?_
            rintro e wd ⟨z4, rfl, hz4, hz5, hc1, hg1⟩
            have DE := DD.drew hgB hc1 hg1
            obtain ⟨⟨x0, x1⟩, xf⟩ := id DE.box
            have xf0 := xf 0
            have xf1 := xf 1
            clear hc1 hg1 DD xf
            have HDE : Hid (DSt w wd g B n c wa.heap.size ao (M + 10 + 8 * p + 4 + 2 + 2) u3 xs 2 (⟨#[]⟩ : ByteArray)) := DE
            clear DE
            have DF := (HDE.out.set0 hgB HEQ.out hOB.out z4).set1 hgB HEQ.out hOB.out ⟨#[120]⟩
            obtain ⟨a', c', we, r1, o1, cb, gb, bb⟩ := DF.grow hgB HEQ.out hOB.out HP.out (by omega) wd.heap.size (by simp)
            have HO1 : Hid (OwnK we B (.slice a' (p + 1) c') (xs ++ [(z4, ⟨#[120]⟩)])) := o1
            have HC1 : Hid (Cur we g ao n c (M + 10 + 8 * p + 8)) := cb.mono (by omega)
            have HG1 : Hid (GB g w we) := gb
            have HX1 : Hid (∀ t ∈ xs ++ [(z4, (⟨#[120]⟩ : ByteArray))], StepOk t) := fun t ht => by
              rcases List.mem_append.1 ht with h | h
              · exact HX.out t h
              · rw [List.mem_singleton.1 h]; exact ⟨hz4, by show z4 ≤ 3; omega, by show (⟨#[120]⟩ : ByteArray).size ≤ 16; decide⟩
            have HL1 : Hid ((xs ++ [(z4, (⟨#[120]⟩ : ByteArray))]).length = p + 1) := by show _ = _; rw [List.length_append, HP.out]; rfl
            clear o1 cb gb DF HDE HX HP
            go_wp2_with (at_builtin; refine Lib.wpList_append_run _ rfl _ _ _ _ rfl _ _ rfl rfl _ _ (r1 _) ?_; clear r1)
            go_roundw
            case rel => exact ⟨k - 1, p + 1, xs ++ [(z4, ⟨#[120]⟩)], by have := HKP.out; go_num, by have := HKP.out; omega, HL1, HX1, HO1, HC1.out.mono (by omega), HG1, bb⟩
            case measure => have := HKP.out; simp [intOf]; omega
      · have k1 : (k : Int) ≤ 0 := by omega
        obtain rfl : k = 0 := by omega
        obtain ⟨a2, c2, hv⟩ := hY.out.shape
        rw [HP.out] at hv
        subst hv
        have HKP : Hid (p + 0 = n0) := hkp
        clear hkp
        go_wp2
        go_ret
        exact ⟨a2, p, c2, xs, rfl, HP.out, hp4, HX.out, by rw [HEQ.out]; exact hY.out, hC.out.mono (by omega), hG.out⟩

end Go.Proofs.Yteopaocomfepfaa
