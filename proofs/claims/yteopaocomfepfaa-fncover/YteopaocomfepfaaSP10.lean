/- Chapter 10, the specification: PlayCover. -/
import Derived.Test.YteopaocomfepfaaPC10
import Derived.Deep.AppendLies
namespace Go.Proofs.Yteopaocomfepfaa
set_option linter.unusedVariables false
set_option maxRecDepth 1000000
set_option linter.unusedSimpArgs false
open Go.RowKit

/-- One text is appended to a row of the call's own: where the row lies. -/
theorem appendS_lies (w : World) (base : Nat) (v : Value) (xs : List ByteArray) (x : ByteArray) (hown : OwnS w base v xs) (hb : xs.length ≤ 100000) (hbase : base ≤ w.heap.size) :
    ∃ v' w', (∀ ty, (Builtin.append_ #[27, 27] ty #[v, .slice (some ⟨w.heap.size, 0, none⟩) 1 1]).run Try.prog (w.alloc (.cells #[.string x] 9)) = .ok v' w') ∧ OwnS w' base v' (xs ++ [x]) ∧ (w.alloc (.cells #[.string x] 9)).grownBy w' v.ownBlock ∧ Below base (w.alloc (.cells #[.string x] 9)) w' ∧ (v'.ownBlock = v.ownBlock ∨ v'.ownBlock = some (w.heap.size + 1)) := by
  obtain ⟨i0, hi, hz0, hz1, hz2⟩ := info_parts Try.infoStr
  have hA := hown.later (balloc w (.cells #[.string x] 9))
  have hl := litS w x
  have hnews : ∀ j u, (cellsS [x])[j]? = some u → (w.alloc (.cells #[.string x] 9)).cell? ((⟨w.heap.size, 0, none⟩ : Addr).add j) = some u := fun j u hj => by
    rcases hl with h | ⟨b', o', he, hc⟩
    · cases h
    · simp only [Option.some.injEq, Addr.mk.injEq] at he
      obtain ⟨rfl, rfl, _⟩ := he
      have hjl : j < [x].length := by have := (List.getElem?_eq_some_iff.1 hj).1; simpa [cellsS] using this
      rw [getD_map_str [x] j hjl] at hj
      rw [Go.WideShapes.add_plain, hc j hjl]
      exact hj
  obtain ⟨g, cap, w', hrun, hown', hgrow, hlie, _⟩ := run_append_lies (P := Try.prog) (w := w.alloc (.cells #[.string x] 9)) 27 27 base 9 i0 (.string ByteArray.empty) 1 16 Try.underlying27 hi hz0 hz1 hz2 rfl (by decide) v xs.length (cellsS xs) hA ⟨w.heap.size, 0, none⟩ 1 1 (cellsS [x]) rfl hnews (cellsS_oneCell _) (by omega) (by unfold maxLen; omega) (by omega) (by simp; omega) (w.heap.size + 1) (by simp)
  refine ⟨_, w', fun ty => hrun, ?_, hgrow, (Below.refl _ _).grown hgrow (by simp; omega) (own_block_geS hA), ?_⟩
  · unfold OwnS
    rw [List.length_append]
    simpa [cellsS] using hown'
  · rcases hlie with h | h
    · exact Or.inl (by rw [h]; rfl)
    · exact Or.inr (by rw [h]; rfl)

/-- l10Step on a client whose queue is a row of the call's own: so is the queue that it tells; it is the old one, or it is new. -/
theorem specLO_c (ao : Option Addr) (n c : Nat) (t y k : Int) (s : ByteArray) (xs : List ByteArray) (w : World) (B : Nat) (hB : B ≤ w.heap.size) (hg : goodC xs t y = true) (ho : OwnS w B (.slice ao n c) xs) (hs : s.size ≤ 9223372036854775807) (r : StV) (hr : lstepV xs t y k s = r) (m : Nat) (hm : r.q.length = m) :
    Calls Try.prog 62 #[.agg #[.slice ao n c, .int .i64 t, .int .i64 y], .agg #[.int .i64 k, .string s]] w fun e w' => ∃ a' c', e = .returned (.tuple #[.agg #[.slice a' m c', .int .i64 r.t, .int .i64 r.y], .agg #[.int .i64 r.e0, .int .i64 r.e1, .int .i64 r.e2], .string r.s, .bool r.ok]) ∧ OwnS w' B (.slice a' m c') r.q ∧ (Value.slice a' m c' = Value.slice ao n c ∨ ∀ q, (Value.slice a' m c').ownBlock = some q → w.heap.size ≤ q) ∧ Below w.heap.size w w' := by
  have hq := ho.ok
  obtain ⟨hg1, hg2, hg3⟩ := goodC_iff.1 hg
  have h5 : n ≤ 5 := by rw [← hq.len]; exact (queueB_iff.1 hg1).1
  by_cases hsay : sayOk xs k s = true
  · obtain ⟨rfl, h15, hl⟩ := sayOk_iff.1 hsay
    rw [lstep_say hsay] at hr
    subst hr
    have hm' : m = n + 1 := by rw [← hm, ← hq.len]; simp [sayV]
    subst hm'
    refine (l10Step_say ao n c t y s xs w (by rw [← hq.len]; exact hl) hq (by simpa [sayB] using h15)).mono ?_
    rintro e w' ⟨a', c', rfl, ho', hb⟩
    exact ⟨a', c', rfl, ho'.mono hB, Or.inr (own_block_geS ho'), hb⟩
  · by_cases htk : tickOk t k s = true
    · obtain ⟨rfl, rfl, hlt⟩ := tick_k htk
      rw [lstep_tick hsay htk] at hr
      subst hr
      cases xs with
      | nil =>
        have h0 : n = 0 := by rw [← hq.len]; rfl
        subst h0
        have hm' : m = 0 := by rw [← hm]; rfl
        subst hm'
        refine (l10Step_tick0 ao c t y w ⟨hg2.1, hlt⟩ hg3).mono ?_
        rintro e w' ⟨rfl, hb⟩
        exact ⟨ao, c, rfl, ho.later hb, Or.inl rfl, hb⟩
      | cons x rest =>
        obtain ⟨b, o, rfl, _⟩ := hq.rd.get (k := 0) (by simp)
        obtain ⟨m', rfl⟩ : ∃ m', n = m' + 1 := ⟨rest.length, by rw [← hq.len]; rfl⟩
        have hm' : m = m' := by rw [← hm]; have := hq.len; simp [tickV] at this ⊢; exact this
        subst hm'
        refine (l10Step_tick1 b o m c t y x rest w (by omega) hq ⟨hg2.1, hlt⟩ hg3).mono ?_
        rintro e w' ⟨a', c', rfl, ho', hb⟩
        exact ⟨a', c', rfl, ho'.mono hB, Or.inr (own_block_geS ho'), hb⟩
    · rw [lstep_no hsay htk] at hr
      subst hr
      have hm' : m = n := by rw [← hm, ← hq.len]
      subst hm'
      have hend : ∀ e w', e = Ending.returned (.tuple #[.agg #[.slice ao m c, .int .i64 t, .int .i64 y], .agg #[.int .i64 0, .int .i64 0, .int .i64 0], .string ByteArray.empty, .bool false]) ∧ Below w.heap.size w w' → ∃ a' c', e = Ending.returned (.tuple #[.agg #[.slice a' m c', .int .i64 t, .int .i64 y], .agg #[.int .i64 0, .int .i64 0, .int .i64 0], .string ByteArray.empty, .bool false]) ∧ OwnS w' B (.slice a' m c') xs ∧ (Value.slice a' m c' = Value.slice ao m c ∨ ∀ q, (Value.slice a' m c').ownBlock = some q → w.heap.size ≤ q) ∧ Below w.heap.size w w' := fun e w' h => ⟨ao, c, h.1, ho.later h.2, Or.inl rfl, h.2⟩
      by_cases k1 : k = 1
      · subst k1
        cases h : sayB s with
        | false => exact (l10Step_k1a ao m c t y s w (by omega) hs h).mono hend
        | true => exact (l10Step_k1b ao m c t y s w (by omega) hs h (fun e => hsay (sayOk_iff.2 ⟨rfl, by simpa [sayB] using h, by rw [hq.len]; exact e⟩))).mono hend
      · by_cases k2 : k = 2
        · subst k2
          by_cases h0 : s = ByteArray.empty
          · exact (l10Step_k2b ao m c t y s w (by omega) h0 (fun e => htk (tickOk_iff.2 ⟨⟨rfl, h0⟩, e⟩))).mono hend
          · exact (l10Step_k2a ao m c t y s w (by omega) h0).mono hend
        · exact (l10Step_k0 ao m c t y k s w (by omega) k1 k2).mono hend

theorem plStep_l {y : Int} {q : List ByteArray} {t : Int} {em : List (Int × Int × Int)} {tx : List ByteArray} {did : List Bool} {kk : Int} {s : ByteArray} {r : StV} (hr : lstepV q t y kk s = r) : plStep y ⟨q, t, em, tx, did⟩ (kk, s) = (if r.ok = true then (if kk = 2 then ⟨r.q, r.t, em ++ [(r.e0, r.e1, r.e2)], tx ++ [r.s], did ++ [true]⟩ else ⟨r.q, r.t, em, tx, did ++ [true]⟩) else ⟨q, t, em, tx, did ++ [false]⟩) ∧ (r.ok = true → r.y = y) ∧ (r.ok = false → r.q = q ∧ r.t = t ∧ r.y = y) := by
  cases hok : (stepV q t y kk s).ok with
  | true =>
    have e := lstep_ok.2 hok
    rw [hr] at e
    refine ⟨?_, fun _ => by rw [e]; exact stepV_y hok, fun h => by rw [e, hok] at h; cases h⟩
    unfold plStep
    dsimp only
    rw [e]
  | false =>
    have e := lstep_rest hok
    rw [hr] at e
    refine ⟨?_, (fun h => by (rw [e] at h; cases h)), fun _ => by rw [e]; exact ⟨rfl, rfl, rfl⟩⟩
    unfold plStep
    dsimp only
    rw [if_neg (by rw [hok]; simp), if_neg (by rw [e]; simp)]

set_option maxHeartbeats 4000000 in
theorem specPlay_no (y : Int) (lo : Option Addr) (n lc : Nat) (w : World) (hn : n ≤ 17592186044416) (h : ¬ (waysB y = true ∧ n ≤ 80)) :
    Calls Try.prog 14 #[.int .i64 y, .slice lo n lc] w fun e w' => e = .returned (.tuple #[.slice none 0 0, .slice none 0 0, .slice none 0 0, .bool false]) ∧ Below w.heap.size w w' := by
  have q0 := specNew_c y w
  generalize (if waysB y = true then y else 0) = ly at q0
  cases hb : waysB y with
  | false =>
    rw [hb] at q0
    go_enter Try.func14, Try.ntmps14
    go_wp2_with fail
    refine q0.mono ?_
    clear q0
    rintro e w1 ⟨rfl, hB⟩
    have HB : Hid (Below w.heap.size w (w1.alloc (.cells #[.slice none 0 0, .int .i64 0, .int .i64 ly] 45))) := hB.alloc hB.size _
    clear hB
    go_wp2
    refine bodyPost_ret (v := .tuple #[.slice none 0 0, .slice none 0 0, .slice none 0 0, .bool false]) (by simp [results, Try.results14, go_sem]; try rfl) rfl ?_
    exact ⟨rfl, HB.out⟩
  | true =>
    have h8 : (80 : Int) < (n : Int) := by
      have : ¬ n ≤ 80 := fun e => h ⟨hb, e⟩
      omega
    rw [hb] at q0
    go_enter Try.func14, Try.ntmps14
    go_wp2_with fail
    refine q0.mono ?_
    clear q0
    rintro e w1 ⟨rfl, hB⟩
    have HB : Hid (Below w.heap.size w (w1.alloc (.cells #[.slice none 0 0, .int .i64 0, .int .i64 ly] 45))) := hB.alloc hB.size _
    clear hB
    go_wp2
    refine bodyPost_ret (v := .tuple #[.slice none 0 0, .slice none 0 0, .slice none 0 0, .bool false]) (by simp [results, Try.results14, go_sem]; try rfl) rfl ?_
    exact ⟨rfl, HB.out⟩

set_option maxHeartbeats 16000000 in
theorem specPlay_yes (y : Int) (lo : Option Addr) (n lc : Nat) (l : List (Int × ByteArray)) (w : World) (hx : l.length = n) (hy : waysB y = true) (hn : n ≤ 80) (hr : RdK w lo l) (hz : ∀ x ∈ l, x.2.size ≤ 9223372036854775807) (p : Nat) (hp : (playV y l).em.length = p) :
    Calls Try.prog 14 #[.int .i64 y, .slice lo n lc] w fun e w' => ∃ a1 c1 a2 c2 a3 c3, e = .returned (.tuple #[.slice a1 p c1, .slice a2 p c2, .slice a3 n c3, .bool true]) ∧ OwnE w' w.heap.size (.slice a1 p c1) (playV y l).em ∧ OwnS w' w.heap.size (.slice a2 p c2) (playV y l).tx ∧ OwnB w' w.heap.size (.slice a3 n c3) (playV y l).did ∧ Below w.heap.size w w' := by
  have hpo := pl_take hy l n (by omega)
  rw [List.take_of_length_le (by omega)] at hpo
  have HTX : Hid ((playV y l).tx.length = p) := by show _ = _; rw [hpo.tx, hp]
  have HDD : Hid ((playV y l).did.length = n) := hpo.did
  have HEP : Hid ((playV y l).em.length = p) := hp
  have HX : Hid (l.length = n) := hx
  have HRL : Hid (RdK w lo l) := hr
  have HSZ : Hid (∀ x ∈ l, x.2.size ≤ 9223372036854775807) := hz
  have q0 := specNew_c y w
  rw [if_pos hy, hy] at q0
  have hn8 : ¬ (80 : Int) < (n : Int) := by omega
  clear hpo hp hx hr hz
  go_enter Try.func14, Try.ntmps14
  go_wp2_with fail
  refine q0.mono ?_
  clear q0
  rintro e w1 ⟨rfl, hB⟩
  have bB := hB.alloc hB.size (.cells #[.slice none 0 0, .int .i64 0, .int .i64 y] 45)
  have cC := x3_new w1 (.slice none 0 0) (.int .i64 0) (.int .i64 y) 45 w1.heap.size rfl
  have hz2 : (w1.alloc (.cells #[.slice none 0 0, .int .i64 0, .int .i64 y] 45)).heap.size = w1.heap.size + 1 := by simp
  obtain ⟨w2, hw2⟩ : ∃ V, w1.alloc (.cells #[.slice none 0 0, .int .i64 0, .int .i64 y] 45) = V := ⟨_, rfl⟩
  rw [hw2] at bB cC hz2
  obtain ⟨g8, hg8⟩ : ∃ g8, w1.heap.size = g8 := ⟨_, rfl⟩
  rw [hg8] at cC hz2
  have HB2 : Hid (Below w.heap.size w w2) := bB
  have HC2 : Hid (X3 w2 g8 (.slice none 0 0) (.int .i64 0) (.int .i64 y)) := cC
  have HG8 : Hid (g8 < w2.heap.size ∧ w.heap.size ≤ w2.heap.size ∧ w.heap.size ≤ g8) := ⟨by omega, bB.size, by rw [← hg8]; exact hB.size⟩
  clear hB bB cC hz2
  go_wp2
  clear hw2 hg8
  go_loopw [10, 11, 12, 33] (fun v10 v11 v12 iv wr => ∃ (k : Nat) (P : PlV) (a3 : Option Addr) (c3 : Nat), k ≤ n ∧ iv = .int .i64 k ∧ Hid (playV y (l.take k) = P) ∧ Hid (X3 wr g8 (.slice a3 P.q.length c3) (.int .i64 P.t) (.int .i64 y)) ∧ Hid (OwnS wr w2.heap.size (.slice a3 P.q.length c3) P.q) ∧ Hid (OwnE wr w2.heap.size v10 P.em) ∧ Hid (OwnS wr w2.heap.size v11 P.tx) ∧ Hid (OwnB wr w2.heap.size v12 P.did) ∧ Hid ((Value.slice a3 P.q.length c3).ownBlock = none ∨ (Value.slice a3 P.q.length c3).ownBlock ≠ v11.ownBlock) ∧ Hid (Below w.heap.size w wr) ∧ Hid (w2.heap.size ≤ wr.heap.size)) (fun _ _ _ iv _ => n - (intOf iv).toNat)
  case atStart => exact ⟨0, plNil, none, 0, Nat.zero_le _, rfl, rfl, HC2, OwnS.nilq _ _, OwnE.nilq _ _, OwnS.nilq _ _, OwnB.nilq _ _, Or.inl rfl, HB2, Nat.le_refl _⟩
  case round =>
    obtain ⟨k, P, a3, c3, hk, rfl, HP, HCl, HOq, HOe, HOt, HOd, HSep, HB, HZ⟩ := hrel
    clear HC2
    by_cases hlt : k < n
    case neg =>
      obtain rfl : k = n := by omega
      have HPP : Hid (playV y l = P) := by show _ = _; rw [← HP.out, List.take_of_length_le (by rw [HX.out]; omega)]
      have hg := HG8.out
      have h1 := HOe.out.shape
      have h2 := HOt.out.shape
      have h3 := HOd.out.shape
      rw [← HPP.out] at h1 h2 h3
      rw [HEP.out] at h1
      rw [HTX.out] at h2
      rw [HDD.out] at h3
      obtain ⟨a1, c1, rfl⟩ := h1
      obtain ⟨a2, c2, rfl⟩ := h2
      obtain ⟨a4, c4, rfl⟩ := h3
      go_wp2
      refine bodyPost_ret (v := .tuple #[.slice a1 p c1, .slice a2 p c2, .slice a4 k c4, .bool true]) (by simp [results, Try.results14, go_sem]; try rfl) rfl ?_
      exact ⟨a1, c1, a2, c2, a4, c4, rfl, by rw [HPP.out]; exact HOe.out.mono (by omega), by rw [HPP.out]; exact HOt.out.mono (by omega), by rw [HPP.out]; exact HOd.out.mono (by omega), HB.out⟩
    have k0 : (0 : Int) ≤ (k : Int) := by omega
    have k1 : (k : Int) < (n : Int) := by omega
    have hkl : k < l.length := by rw [HX.out]; exact hlt
    have hpo := pl_take hy l k (by omega)
    rw [HP.out] at hpo
    have HPN : playV y (l.take (k + 1)) = plStep y P (l.getD k (0, ByteArray.empty)) := by rw [play_succ hkl, HP.out]
    obtain ⟨b, o, rfl, s0, s1⟩ := (HRL.out.later HB.out).get hkl
    have hsx := HSZ.out _ (mem_getD (0, ByteArray.empty) hkl)
    generalize l.getD k (0, ByteArray.empty) = x at HPN s0 s1 hsx
    obtain ⟨kk, s⟩ := x
    dsimp only at s0 s1 hsx
    obtain ⟨q, t, em, tx, did⟩ := P
    dsimp only at HCl HOq HOe HOt HOd HSep hpo
    have hgood : goodC q t y = true := hpo.good
    have hem : em.length ≤ k := hpo.em
    have htx : tx.length = em.length := hpo.tx
    have hdid : did.length = k := hpo.did
    obtain ⟨r, hr⟩ : ∃ r, lstepV q t y kk s = r := ⟨_, rfl⟩
    obtain ⟨hPS, hry, hno⟩ := plStep_l (em := em) (tx := tx) (did := did) hr
    rw [hPS] at HPN
    -- the step's box
    have b1 := balloc wr (.cells #[.int .i64 kk, .string s] 39)
    have cS := x2_new wr (.int .i64 kk) (.string s) 39 wr.heap.size rfl
    have cC := HCl.out.later b1
    have oQ := HOq.out.later b1
    have oE := HOe.out.later b1
    have oT := HOt.out.later b1
    have oD := HOd.out.later b1
    have bB := HB.out.alloc HB.out.size (.cells #[.int .i64 kk, .string s] 39)
    have z1 : (wr.alloc (.cells #[.int .i64 kk, .string s] 39)).heap.size = wr.heap.size + 1 := by simp
    obtain ⟨w3, hw3⟩ : ∃ V, wr.alloc (.cells #[.int .i64 kk, .string s] 39) = V := ⟨_, rfl⟩
    rw [hw3] at cS cC oQ oE oT oD bB z1
    have qL := specLO_c a3 q.length c3 t y kk s q w3 w2.heap.size (by have := HZ.out; omega) hgood oQ hsx r hr r.q.length rfl
    have I11 : Hid (∀ q, u11.ownBlock = some q → w2.heap.size ≤ q ∧ q < wr.heap.size) := World.ownsRow.lt HOt.out
    have I10 : Hid (∀ q, u10.ownBlock = some q → w2.heap.size ≤ q ∧ q < wr.heap.size) := World.ownsRow.lt HOe.out
    have I12 : Hid (∀ q, u12.ownBlock = some q → w2.heap.size ≤ q ∧ q < wr.heap.size) := World.ownsRow.lt HOd.out
    have H3S : Hid (X2 w3 wr.heap.size (.int .i64 kk) (.string s)) := cS
    have H3C : Hid (X3 w3 g8 (.slice a3 q.length c3) (.int .i64 t) (.int .i64 y)) := cC
    have H3Q : Hid (OwnS w3 w2.heap.size (.slice a3 q.length c3) q) := oQ
    have H3E : Hid (OwnE w3 w2.heap.size u10 em) := oE
    have H3T : Hid (OwnS w3 w2.heap.size u11 tx) := oT
    have H3D : Hid (OwnB w3 w2.heap.size u12 did) := oD
    have H3B : Hid (Below w.heap.size w w3) := bB
    have H3Z : Hid (w3.heap.size = wr.heap.size + 1) := z1
    clear hPS hr b1 oQ oE oT oD bB z1 HCl HOq HOe HOt HOd HB hpo
    obtain ⟨rq, rt, ry, re0, re1, re2, rs, rok⟩ := r
    dsimp only at qL HPN hry hno
    obtain ⟨mq, hmq⟩ : ∃ mq, rq.length = mq := ⟨_, rfl⟩
    rw [hmq] at qL
    have HMQ : Hid (rq.length = mq) := hmq
    obtain ⟨⟨u0, u1, u2⟩, uf⟩ := cC
    obtain ⟨⟨t0, t1⟩, tf⟩ := cS
    clear uf tf hmq
    go_wp2_with fail
    refine qL.mono ?_
    clear qL u0 u1 u2 t0 t1 s0 s1 hsx hw3 hkl
    rintro e w4 ⟨a4, c4, rfl, ho, hsame, hb⟩
    have sep : (Value.slice a4 mq c4).ownBlock = none ∨ (Value.slice a4 mq c4).ownBlock ≠ u11.ownBlock := by
      rcases hsame with h | h
      · rw [h]; exact HSep.out
      · cases hv : (Value.slice a4 mq c4).ownBlock with
        | none => exact Or.inl rfl
        | some z => exact Or.inr fun e => by have := h z hv; have := I11.out z e.symm; have := H3Z.out; omega
    -- the boxes of what is told
    have b5 := balloc w4 (.cells #[.slice a4 mq c4, .int .i64 rt, .int .i64 ry] 45)
    have b6 := balloc (w4.alloc (.cells #[.slice a4 mq c4, .int .i64 rt, .int .i64 ry] 45)) (.cells #[.int .i64 re0, .int .i64 re1, .int .i64 re2] 52)
    have cN := (x3_new w4 (.slice a4 mq c4) (.int .i64 rt) (.int .i64 ry) 45 w4.heap.size rfl).later b6
    have cM := x3_new (w4.alloc (.cells #[.slice a4 mq c4, .int .i64 rt, .int .i64 ry] 45)) (.int .i64 re0) (.int .i64 re1) (.int .i64 re2) 52 (w4.heap.size + 1) (by simp)
    have cS := ((H3S.out.later hb).later b5).later b6
    have cC := ((H3C.out.later hb).later b5).later b6
    have oQ := (ho.later b5).later b6
    have oQ0 := ((H3Q.out.later hb).later b5).later b6
    have oE := ((H3E.out.later hb).later b5).later b6
    have oT := ((H3T.out.later hb).later b5).later b6
    have oD := ((H3D.out.later hb).later b5).later b6
    have bB0 := H3B.out.trans (hb.mono H3B.out.size)
    have bB := (bB0.alloc bB0.size (.cells #[.slice a4 mq c4, .int .i64 rt, .int .i64 ry] 45)).alloc (by have := bB0.size; simp; omega) (.cells #[.int .i64 re0, .int .i64 re1, .int .i64 re2] 52)
    have z6 : ((w4.alloc (.cells #[.slice a4 mq c4, .int .i64 rt, .int .i64 ry] 45)).alloc (.cells #[.int .i64 re0, .int .i64 re1, .int .i64 re2] 52)).heap.size = w4.heap.size + 2 := by simp
    have z4 : w3.heap.size ≤ w4.heap.size := hb.size
    obtain ⟨w6, hw6⟩ : ∃ V, (w4.alloc (.cells #[.slice a4 mq c4, .int .i64 rt, .int .i64 ry] 45)).alloc (.cells #[.int .i64 re0, .int .i64 re1, .int .i64 re2] 52) = V := ⟨_, rfl⟩
    rw [hw6] at cN cM cS cC oQ oQ0 oE oT oD bB z6
    have hzz := H3Z.out
    have hZ := HZ.out
    have hG := HG8.out
    clear b5 b6 bB0 ho hsame hb
    -- what was done: the last row
    have FIN : ∀ (V : World) (bk : Bool) (v10 v11 : Value) (em' : List (Int × Int × Int)) (tx' : List ByteArray) (q' : List ByteArray) (tt : Int) (aq : Option Addr) (nq cq : Nat), OwnB V w2.heap.size u12 did → X3 V g8 (.slice aq nq cq) (.int .i64 tt) (.int .i64 y) → OwnS V w2.heap.size (.slice aq nq cq) q' → OwnE V w2.heap.size v10 em' → OwnS V w2.heap.size v11 tx' → Below w.heap.size w V → wr.heap.size ≤ V.heap.size →
        ∃ v' V', (∀ ty, (Builtin.append_ #[28, 28] ty #[u12, .slice (some ⟨V.heap.size, 0, none⟩) 1 1]).run Try.prog (V.alloc (.cells #[.bool bk] 4)) = .ok v' V') ∧ OwnB V' w2.heap.size v' (did ++ [bk]) ∧ X3 V' g8 (.slice aq nq cq) (.int .i64 tt) (.int .i64 y) ∧ OwnS V' w2.heap.size (.slice aq nq cq) q' ∧ OwnE V' w2.heap.size v10 em' ∧ OwnS V' w2.heap.size v11 tx' ∧ Below w.heap.size w V' ∧ w2.heap.size ≤ V'.heap.size := by
      intro V bk v10 v11 em' tx' q' tt aq nq cq f1 f2 f3 f4 f5 f6 f7
      have bA := balloc V (.cells #[.bool bk] 4)
      obtain ⟨v', V', r1, o1, g1, d1⟩ := appendB_run (V.alloc (.cells #[.bool bk] 4)) w2.heap.size u12 did [bk] (some ⟨V.heap.size, 0, none⟩) 1 1 (f1.later bA) (litB V bk) rfl (fun e => by cases e) (by simp; omega) (by have := bA.size; omega)
      exact ⟨v', V', r1, o1, (f2.later bA).grown g1 (fun e => by have := I12.out _ e.symm; omega), (f3.later bA).kept g1 (row_sepT (f3.later bA) (f1.later bA) (by decide)), (f4.later bA).kept g1 (row_sepT (f4.later bA) (f1.later bA) (by decide)), (f5.later bA).kept g1 (row_sepT (f5.later bA) (f1.later bA) (by decide)), (f6.alloc f6.size _).trans (d1.mono (by omega)), by have := bA.size; have := d1.size; omega⟩
    cases rok with
    | false =>
      obtain ⟨rfl, rfl, rfl⟩ := hno rfl
      rw [if_neg (by simp)] at HPN
      have HPK : Hid (playV ry (l.take (k + 1)) = ⟨rq, rt, em, tx, did ++ [false]⟩) := HPN
      obtain ⟨v', V', r1, o1, f2, f3, f4, f5, f6, f7⟩ := FIN w6 false u10 u11 em tx rq rt a3 rq.length c3 oD cC oQ0 oE oT bB (by omega)
      have HF1 : Hid (OwnB V' w2.heap.size v' (did ++ [false])) := o1
      have HF2 : Hid (X3 V' g8 (.slice a3 rq.length c3) (.int .i64 rt) (.int .i64 ry)) := f2
      have HF3 : Hid (OwnS V' w2.heap.size (.slice a3 rq.length c3) rq) := f3
      have HF4 : Hid (OwnE V' w2.heap.size u10 em) := f4
      have HF5 : Hid (OwnS V' w2.heap.size u11 tx) := f5
      have HF6 : Hid (Below w.heap.size w V') := f6
      have HF7 : Hid (w2.heap.size ≤ V'.heap.size) := f7
      clear o1 f2 f3 f4 f5 f6 f7 FIN hzz hZ hG z4 z6
      clear HPN cN cM cS cC oQ oQ0 oE oT oD bB sep hry hno
      go_wp2_with (at_builtin; refine Lib.wpList_append_run _ rfl _ _ _ _ rfl _ _ rfl rfl _ _ (r1 _) ?_; clear r1)
      go_roundw
      case rel => exact ⟨k + 1, ⟨rq, rt, em, tx, did ++ [false]⟩, a3, c3, by omega, by go_num, HPK, HF2, HF3, HF4, HF5, HF1, HSep, HF6, HF7⟩
      case measure => simp [intOf]; omega
    | true =>
      obtain rfl : ry = y := hry rfl
      rw [if_pos rfl] at HPN
      clear hry hno
      have c7C := ((cC.set0 (.slice a4 mq c4)).set1 (.int .i64 rt)).set2 (.int .i64 ry)
      have c7S := (((cS.other (r' := g8) (j' := 0) (u := .slice a4 mq c4) (by omega)).other (r' := g8) (j' := 1) (u := .int .i64 rt) (by omega)).other (r' := g8) (j' := 2) (u := .int .i64 ry) (by omega))
      have c7M := (((cM.other (r' := g8) (j' := 0) (u := .slice a4 mq c4) (by omega)).other (r' := g8) (j' := 1) (u := .int .i64 rt) (by omega)).other (r' := g8) (j' := 2) (u := .int .i64 ry) (by omega))
      have g7 := grown_trans (grown_trans (grown_setCell w6 g8 0 (.slice a4 mq c4)) (grown_setCell _ g8 1 (.int .i64 rt))) (grown_setCell _ g8 2 (.int .i64 ry))
      have o7Q := ((oQ.set (r := g8) (j := 0) (u := .slice a4 mq c4) (by omega)).set (r := g8) (j := 1) (u := .int .i64 rt) (by omega)).set (r := g8) (j := 2) (u := .int .i64 ry) (by omega)
      have o7T := ((oT.set (r := g8) (j := 0) (u := .slice a4 mq c4) (by omega)).set (r := g8) (j := 1) (u := .int .i64 rt) (by omega)).set (r := g8) (j := 2) (u := .int .i64 ry) (by omega)
      have o7E := oE.kept g7 (by
        cases hv : u10.ownBlock with
        | none => exact Or.inl rfl
        | some z => exact Or.inr fun e => by simp at e; have := own_block_geE oE z hv; omega)
      have o7D := oD.kept g7 (by
        cases hv : u12.ownBlock with
        | none => exact Or.inl rfl
        | some z => exact Or.inr fun e => by simp at e; have := own_block_geB oD z hv; omega)
      have b7B := bB.trans (below_grown g7 (B := w.heap.size) (by omega) (by omega))
      have z7 : (((w6.setCell ⟨g8, 0, none⟩ (.slice a4 mq c4)).setCell ⟨g8, 1, none⟩ (.int .i64 rt)).setCell ⟨g8, 2, none⟩ (.int .i64 ry)).heap.size = w6.heap.size := by simp
      obtain ⟨w7, hw7⟩ : ∃ V, ((w6.setCell ⟨g8, 0, none⟩ (.slice a4 mq c4)).setCell ⟨g8, 1, none⟩ (.int .i64 rt)).setCell ⟨g8, 2, none⟩ (.int .i64 ry) = V := ⟨_, rfl⟩
      rw [hw7] at c7C c7S c7M g7 o7Q o7T o7E o7D b7B z7
      obtain ⟨⟨n0, n1, n2⟩, nf⟩ := cN
      obtain ⟨⟨m0, m1, m2⟩, mf⟩ := cC
      have mf0 := mf 0
      have mf1 := mf 1
      have mf2 := mf 2
      obtain ⟨⟨y0, y1⟩, yf⟩ := c7S
      obtain ⟨⟨x0, x1, x2⟩, xf⟩ := id c7M
      have ne1 : ¬ g8 = w4.heap.size := by omega
      have ne2 : ¬ w4.heap.size = g8 := by omega
      have hmq := HMQ.out
      by_cases hk2 : kk = 2
      · subst hk2
        rw [if_pos rfl] at HPN
        have HPK : Hid (playV ry (l.take (k + 1)) = ⟨rq, rt, em ++ [(re0, re1, re2)], tx ++ [rs], did ++ [true]⟩) := HPN
        -- what goes out
        have bE := balloc w7 (.cells #[.int .i64 re0, .int .i64 re1, .int .i64 re2] 52)
        obtain ⟨v10, w8, rA, o8E, g8', d8⟩ := appendE_run (w7.alloc (.cells #[.int .i64 re0, .int .i64 re1, .int .i64 re2] 52)) w2.heap.size u10 em [(re0, re1, re2)] (some ⟨w7.heap.size, 0, none⟩) 1 1 (o7E.later bE) (litE w7 re0 re1 re2) rfl (fun e => by cases e) (by omega) (by have := bE.size; omega)
        have c8C := (c7C.later bE).grown g8' (fun e => by have := I10.out _ e.symm; omega)
        have o8Q := (o7Q.later bE).kept g8' (row_sepT (o7Q.later bE) (o7E.later bE) (by decide))
        have o8T := (o7T.later bE).kept g8' (row_sepT (o7T.later bE) (o7E.later bE) (by decide))
        have o8D := (o7D.later bE).kept g8' (row_sepT (o7D.later bE) (o7E.later bE) (by decide))
        have b8B := (b7B.alloc b7B.size (.cells #[.int .i64 re0, .int .i64 re1, .int .i64 re2] 52)).trans (d8.mono (by omega))
        have z8 : w7.heap.size ≤ w8.heap.size := Nat.le_trans bE.size d8.size
        -- its text
        have bS := balloc w8 (.cells #[.string rs] 9)
        obtain ⟨v11, w9, rB, o9T, g9, d9, l9⟩ := appendS_lies w8 w2.heap.size u11 tx rs o8T (by omega) (by omega)
        have I4 := World.ownsRow.lt o7Q
        have c9C := (c8C.later bS).grown g9 (fun e => by have := I11.out _ e.symm; omega)
        have o9Q := (o8Q.later bS).kept g9 sep
        have o9E := (o8E.later bS).kept g9 (row_sepT (o8E.later bS) (o8T.later bS) (by decide))
        have o9D := (o8D.later bS).kept g9 (row_sepT (o8D.later bS) (o8T.later bS) (by decide))
        have b9B := (b8B.alloc b8B.size (.cells #[.string rs] 9)).trans (d9.mono (by omega))
        have z9 : w8.heap.size ≤ w9.heap.size := Nat.le_trans bS.size d9.size
        have HSN : Hid ((Value.slice a4 mq c4).ownBlock = none ∨ (Value.slice a4 mq c4).ownBlock ≠ v11.ownBlock) := by
          rcases l9 with h | h
          · rw [h]; exact sep
          · rw [h]
            cases hv : (Value.slice a4 mq c4).ownBlock with
            | none => exact Or.inl rfl
            | some z => exact Or.inr fun e => by simp only [Option.some.injEq] at e; have := I4 z hv; omega
        obtain ⟨v', V', r1, o1, f2, f3, f4, f5, f6, f7⟩ := FIN w9 true v10 v11 (em ++ [(re0, re1, re2)]) (tx ++ [rs]) rq rt a4 mq c4 o9D c9C o9Q o9E o9T b9B (by omega)
        have HF1 : Hid (OwnB V' w2.heap.size v' (did ++ [true])) := o1
        have HF2 : Hid (X3 V' g8 (.slice a4 mq c4) (.int .i64 rt) (.int .i64 ry)) := f2
        have HF3 : Hid (OwnS V' w2.heap.size (.slice a4 mq c4) rq) := f3
        have HF4 : Hid (OwnE V' w2.heap.size v10 (em ++ [(re0, re1, re2)])) := f4
        have HF5 : Hid (OwnS V' w2.heap.size v11 (tx ++ [rs])) := f5
        have HF6 : Hid (Below w.heap.size w V') := f6
        have HF7 : Hid (w2.heap.size ≤ V'.heap.size) := f7
        clear o1 f2 f3 f4 f5 f6 f7 FIN hzz hZ hG z4 z6
        clear HPN cM oQ oQ0 oE oT oD bB sep mf nf yf xf bE o8E g8' d8 c8C o8Q o8T o8D b8B z8 bS o9T g9 d9 l9 I4 c9C o9Q o9E o9D b9B z9 c7C c7M g7 o7Q o7T o7E o7D b7B z7 hmq
        go_wp2_with (first | (at_builtin; refine Lib.wpList_append_run _ rfl _ _ _ _ rfl _ _ rfl rfl _ _ (rA _) ?_; clear rA) | (at_builtin; refine Lib.wpList_append_run _ rfl _ _ _ _ rfl _ _ rfl rfl _ _ (rB _) ?_; clear rB) | (at_builtin; refine Lib.wpList_append_run _ rfl _ _ _ _ rfl _ _ rfl rfl _ _ (r1 _) ?_; clear r1))
        go_roundw
        case rel => exact ⟨k + 1, ⟨rq, rt, em ++ [(re0, re1, re2)], tx ++ [rs], did ++ [true]⟩, a4, c4, by omega, by go_num, HPK, (by show X3 _ _ _ _ _; rw [HMQ.out]; exact HF2.out), (by show OwnS _ _ _ _; rw [HMQ.out]; exact HF3.out), HF4, HF5, HF1, (by show _ ∨ _; rw [HMQ.out]; exact HSN.out), HF6, HF7⟩
        case measure => simp [intOf]; omega
      · rw [if_neg hk2] at HPN
        have HPK : Hid (playV ry (l.take (k + 1)) = ⟨rq, rt, em, tx, did ++ [true]⟩) := HPN
        have e2 : (kk == 2) = false := by rw [beq_eq_false_iff_ne]; exact hk2
        have HSN : Hid ((Value.slice a4 mq c4).ownBlock = none ∨ (Value.slice a4 mq c4).ownBlock ≠ u11.ownBlock) := sep
        obtain ⟨v', V', r1, o1, f2, f3, f4, f5, f6, f7⟩ := FIN w7 true u10 u11 em tx rq rt a4 mq c4 o7D c7C o7Q o7E o7T b7B (by omega)
        have HF1 : Hid (OwnB V' w2.heap.size v' (did ++ [true])) := o1
        have HF2 : Hid (X3 V' g8 (.slice a4 mq c4) (.int .i64 rt) (.int .i64 ry)) := f2
        have HF3 : Hid (OwnS V' w2.heap.size (.slice a4 mq c4) rq) := f3
        have HF4 : Hid (OwnE V' w2.heap.size u10 em) := f4
        have HF5 : Hid (OwnS V' w2.heap.size u11 tx) := f5
        have HF6 : Hid (Below w.heap.size w V') := f6
        have HF7 : Hid (w2.heap.size ≤ V'.heap.size) := f7
        clear o1 f2 f3 f4 f5 f6 f7 FIN hzz hZ hG z4 z6
        clear HPN cM oQ oQ0 oE oT oD bB sep mf nf yf xf c7C c7M g7 o7Q o7T o7E o7D b7B z7 hmq hk2
        go_wp2_with (at_builtin; refine Lib.wpList_append_run _ rfl _ _ _ _ rfl _ _ rfl rfl _ _ (r1 _) ?_; clear r1)
        go_roundw
        case rel => exact ⟨k + 1, ⟨rq, rt, em, tx, did ++ [true]⟩, a4, c4, by omega, by go_num, HPK, (by show X3 _ _ _ _ _; rw [HMQ.out]; exact HF2.out), (by show OwnS _ _ _ _; rw [HMQ.out]; exact HF3.out), HF4, HF5, HF1, (by show _ ∨ _; rw [HMQ.out]; exact HSN.out), HF6, HF7⟩
        case measure => simp [intOf]; omega


theorem playF_len {y : Int} {l : List (Int × ByteArray)} {em : List (Int × Int × Int)} {tx : List ByteArray} {did : List Bool} {fb : Bool} (hF : playF y l = (em, tx, did, fb)) : em.length ≤ 80 ∧ tx.length = em.length ∧ did.length ≤ 80 := by
  by_cases h : waysB y = true ∧ l.length ≤ 80
  · rw [playF_yes h] at hF
    simp only [Prod.mk.injEq] at hF
    obtain ⟨rfl, rfl, rfl, rfl⟩ := hF
    have hpo := pl_take h.1 l l.length (Nat.le_refl _)
    rw [List.take_of_length_le (Nat.le_refl _)] at hpo
    exact ⟨Nat.le_trans hpo.em h.2, hpo.tx, by rw [hpo.did]; exact h.2⟩
  · rw [playF_no h] at hF
    simp only [Prod.mk.injEq] at hF
    obtain ⟨rfl, rfl, rfl, rfl⟩ := hF
    simp
theorem play_both {f : FuncId} (hyes : ∀ (y : Int) (lo : Option Addr) (n lc : Nat) (l : List (Int × ByteArray)) (w : World), l.length = n → waysB y = true → n ≤ 80 → RdK w lo l → (∀ x ∈ l, x.2.size ≤ 9223372036854775807) → ∀ (p : Nat), (playV y l).em.length = p →
    Calls Try.prog f #[.int .i64 y, .slice lo n lc] w fun e w' => ∃ a1 c1 a2 c2 a3 c3, e = .returned (.tuple #[.slice a1 p c1, .slice a2 p c2, .slice a3 n c3, .bool true]) ∧ OwnE w' w.heap.size (.slice a1 p c1) (playV y l).em ∧ OwnS w' w.heap.size (.slice a2 p c2) (playV y l).tx ∧ OwnB w' w.heap.size (.slice a3 n c3) (playV y l).did ∧ Below w.heap.size w w')
    (hno : ∀ (y : Int) (lo : Option Addr) (n lc : Nat) (w : World), n ≤ 17592186044416 → ¬ (waysB y = true ∧ n ≤ 80) → Calls Try.prog f #[.int .i64 y, .slice lo n lc] w fun e w' => e = .returned (.tuple #[.slice none 0 0, .slice none 0 0, .slice none 0 0, .bool false]) ∧ Below w.heap.size w w')
    (y : Int) (lo : Option Addr) (n lc : Nat) (l : List (Int × ByteArray)) (w : World) (hx : l.length = n) (hn : n ≤ 17592186044416) (hr : RdK w lo l) (hz : ∀ x ∈ l, x.2.size ≤ 9223372036854775807) (em : List (Int × Int × Int)) (tx : List ByteArray) (did : List Bool) (fb : Bool) (hF : playF y l = (em, tx, did, fb)) (p d : Nat) (hp : em.length = p) (hd : did.length = d) :
    Calls Try.prog f #[.int .i64 y, .slice lo n lc] w fun e w' => ∃ a1 c1 a2 c2 a3 c3, e = .returned (.tuple #[.slice a1 p c1, .slice a2 p c2, .slice a3 d c3, .bool fb]) ∧ OwnE w' w.heap.size (.slice a1 p c1) em ∧ OwnS w' w.heap.size (.slice a2 p c2) tx ∧ OwnB w' w.heap.size (.slice a3 d c3) did ∧ Below w.heap.size w w' := by
  by_cases h : waysB y = true ∧ l.length ≤ 80
  · rw [playF_yes h] at hF
    simp only [Prod.mk.injEq] at hF
    obtain ⟨rfl, rfl, rfl, rfl⟩ := hF
    have hpo := pl_take h.1 l l.length (Nat.le_refl _)
    rw [List.take_of_length_le (Nat.le_refl _)] at hpo
    obtain rfl : d = n := by rw [← hd, hpo.did, hx]
    exact hyes y lo d lc l w hx h.1 (by omega) hr hz p hp
  · rw [playF_no h] at hF
    simp only [Prod.mk.injEq] at hF
    obtain ⟨rfl, rfl, rfl, rfl⟩ := hF
    subst hp hd
    refine (hno y lo n lc w hn (by rw [← hx]; exact h)).mono ?_
    rintro e w' ⟨rfl, hb⟩
    exact ⟨none, 0, none, 0, none, 0, rfl, OwnE.nilq _ _, OwnS.nilq _ _, OwnB.nilq _ _, hb⟩

end Go.Proofs.Yteopaocomfepfaa
