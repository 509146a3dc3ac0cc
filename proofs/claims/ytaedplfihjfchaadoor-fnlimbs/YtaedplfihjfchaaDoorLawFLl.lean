/- The law FnLimbs, walked: true at every two texts. -/
import Derived.Test.YtaedplfihjfchaaDoorBigOfl
import Derived.Test.YtaedplfihjfchaaDoorSpecDecl
import Derived.Test.YtaedplfihjfchaaDoorDL3l
import Derived.Test.YtaedplfihjfchaaDoorFL1Pl
import Derived.Test.YtaedplfihjfchaaDoorRelTimesl
import Derived.Test.YtaedplfihjfchaaDoorRelDivl
import Derived.Test.YtaedplfihjfchaaDoorImplShiftl
import Derived.Test.YtaedplfihjfchaaDoorSpecShiftl
namespace Go.Proofs.YtaedplfihjfchaaDoor
set_option linter.unusedVariables false
set_option maxRecDepth 1000000
set_option linter.unusedSimpArgs false
open Go.RowKit

theorem ofF_short {n : Int} {zs : List Int} {fb : Bool} (h : ofF n = (zs, fb)) : zs.length ≤ 6 := by
  by_cases hn : n < 0
  · rw [ofF_neg hn] at h
    simp only [Prod.mk.injEq] at h
    rw [← h.1]; simp
  · rw [ofF, if_neg hn] at h
    exact tellF_short (by omega) h

end Go.Proofs.YtaedplfihjfchaaDoor
namespace Go.Proofs.YtaedplfihjfchaaDoor
set_option linter.unusedVariables false
set_option maxRecDepth 1000000
set_option linter.unusedSimpArgs false
open Go.RowKit

set_option maxHeartbeats 1000000 in
theorem specDec_len (s : ByteArray) (w : World) (h : s.size < 1 ∨ 30 < s.size ∨ (1 < s.size ∧ (byts s).getD 0 0 = 48)) :
    Calls Tryd.prog 20 #[.string s] w fun e w' => ∃ a' c', e = .returned (.tuple #[.agg #[.slice a' 0 c'], .bool false]) ∧ Own w' w.heap.size (.slice a' 0 c') [] ∧ Below w.heap.size w w' := by
  by_cases h1 : s.size < 1 ∨ 30 < s.size
  · have hde : decide ((1 : Int) ≤ (s.size : Int) ∧ (s.size : Int) ≤ 30) = false := decide_eq_false (by omega)
    have HIN : Hid (∀ wx, Calls Tryd.prog 49 #[.int .i64 (s.size : Int), .int .i64 1, .int .i64 30] wx fun e w' => e = .returned (.bool false) ∧ w' = wx) := fun wx => by
      have := l1In_c (s.size : Int) 1 30 wx
      rw [hde] at this
      exact this
    clear hde h h1
    go_enter Tryd.func20, Tryd.ntmps20
    go_wp2_with fail
    refine (HIN.out _).mono ?_
    rintro e w1 ⟨rfl, hw⟩
    subst w1
    go_wp2
    refine bodyPost_ret (v := .tuple #[.agg #[.slice none 0 0], .bool false]) (by simp [results, Tryd.results20, go_sem]) rfl ⟨none, 0, rfl, World.ownsRow_nil _ _ _ _, ?_⟩
    repeat (first | exact Below.refl _ _ | refine Below.setCell ?_ (by simp) _ | refine Below.alloc ?_ (by simp) _)
  · have h3 : 1 < s.size ∧ (byts s).getD 0 0 = 48 := by omega
    have hde : decide ((1 : Int) ≤ (s.size : Int) ∧ (s.size : Int) ≤ 30) = true := decide_eq_true ⟨by omega, by omega⟩
    have HIN : Hid (∀ wx, Calls Tryd.prog 49 #[.int .i64 (s.size : Int), .int .i64 1, .int .i64 30] wx fun e w' => e = .returned (.bool true) ∧ w' = wx) := fun wx => by
      have := l1In_c (s.size : Int) 1 30 wx
      rw [hde] at this
      exact this
    obtain ⟨h4, h5⟩ := h3
    have h6 : ((s[0].toNat : Int) == 48) = true := by rw [← byts_getD s 0 (by omega), h5]; rfl
    have h0 : 0 < s.size := by omega
    clear hde h h5
    go_enter Tryd.func20, Tryd.ntmps20
    go_wp2_with fail
    refine (HIN.out _).mono ?_
    rintro e w1 ⟨rfl, hw⟩
    subst w1
    go_wp2
    refine bodyPost_ret (v := .tuple #[.agg #[.slice none 0 0], .bool false]) (by simp [results, Tryd.results20, go_sem]) rfl ⟨none, 0, rfl, World.ownsRow_nil _ _ _ _, ?_⟩
    repeat (first | exact Below.refl _ _ | refine Below.setCell ?_ (by simp) _ | refine Below.alloc ?_ (by simp) _)

theorem specDec_c (s : ByteArray) (w : World) (hs : s.size ≤ 9223372036854775807) (zs : List Int) (fb : Bool) (p : Nat) (hF : digF (byts s) = (zs, fb)) (hp : zs.length = p) :
    Calls Tryd.prog 20 #[.string s] w fun e w' => ∃ a' c', e = .returned (.tuple #[.agg #[.slice a' p c'], .bool fb]) ∧ Own w' w.heap.size (.slice a' p c') zs ∧ Below w.heap.size w w' := by
  by_cases h : s.size < 1 ∨ 30 < s.size ∨ (1 < s.size ∧ (byts s).getD 0 0 = 48)
  · obtain ⟨rfl, rfl, rfl⟩ := dec_none (digF_len (by rw [byts_length]; exact h)) hF hp
    exact specDec_len s w h
  · exact specDec_ok s w h zs fb p hF hp

end Go.Proofs.YtaedplfihjfchaaDoor
namespace Go.Proofs.YtaedplfihjfchaaDoor
set_option linter.unusedVariables false
set_option maxRecDepth 1000000
set_option linter.unusedSimpArgs false
open Go.RowKit

theorem sameBig_t {ao bo : Option Addr} {n c d : Nat} {xs : List Int} (w : World) (hx : xs.length = n) (hn : n ≤ 100) (hr : Rd w ao xs) (hs : Rd w bo xs) :
    Calls Tryd.prog 9 #[.agg #[.slice ao n c], .agg #[.slice bo n d]] w fun e w' => e = .returned (.bool true) ∧ Below w.heap.size w w' := by
  have h := sameBig_c ao bo n n c d xs xs w hx hx (by omega) (by omega) hr hs
  simpa using h

theorem shiftF_less {xs zs : List Int} {b : Int} {fb : Bool} (h : shiftF xs b = (zs, fb)) : zs.length ≤ 6 := by
  unfold shiftF at h
  split at h
  · rename_i hg
    have hx : goodB xs = true := by simp at hg; exact hg.1
    have v0 := val_nonneg (goodB_digs hx).2.1
    refine tellF_short ?_ h
    unfold shV
    split
    · exact Int.mul_nonneg v0 (Int.le_of_lt (Int.pow_pos (by omega)))
    · exact Int.ediv_nonneg v0 (Int.le_of_lt (Int.pow_pos (by omega)))
  · simp only [Prod.mk.injEq] at h; rw [← h.1]; simp

theorem keepC {w w' : World} {a : Addr} {v : Value} (hb : Below w.heap.size w w') (h : w.cell? a = some v) : w'.cell? a = some v := by
  rw [hb.cell (p := a) (World.block_lt_of_cell? _ _ h)]; exact h

theorem takeL1 {P : Program} {ops : Array Oper} {Q : Exit → Act → World → Prop} {md : Region.Mode} {S : World → Prop} {i : Nat} {oi : Oper} {v : Value} {d : Option Tmp} {fuel : Nat} {listed : Array Bool} {a : Act} {w : World} (hi : ops[i]? = some oi) (hd : oi.dst = d)
    (hs : Region.noSelect ops = true) (hf : Region.free md ops listed i = true) (hr : (Region.ready md ops listed).contains i = true)
    (hQ : ∀ c a w, Q (.panic c) (a.put d v) w → Q (.panic c) a w) (hy : YieldsIf P ops S oi v a) (hS : S w)
    (h : wpAnyH P md ops Q S fuel (listed.setIfInBounds i true) (a.put d v) w) : wpAnyH P md ops Q S (fuel + 1) listed a w := by
  subst hd
  exact wpAnyH_take hi hs hf hr hQ hy hS h

set_option maxHeartbeats 32000000 in
set_option maxRecDepth 1000000 in
theorem lawFnLimbs_c (ao : Option Addr) (n c : Nat) (bo : Option Addr) (m d : Nat) (w : World) (hn : n ≤ 9223372036854775807) (hm : m ≤ 9223372036854775807) (h1 : CodeOk w w.heap.size ao n) (h2 : CodeOk w w.heap.size bo m) :
    Calls Tryd.prog 3 #[.slice ao n c, .slice bo m d] w fun e w' => e = .returned (.bool true) ∧ Below w.heap.size w w' := by
  by_cases hl : 1048576 < wrap64 ((n : Int) + (m : Int))
  · clear h1 h2
    go_enter Tryd.func3, Tryd.ntmps3
    go_wp2
    go_ret
    exact ⟨rfl, Below.refl _ _⟩
  have HN : Hid (CodeOk w w.heap.size ao n) := h1
  have HM : Hid (CodeOk w w.heap.size bo m) := h2
  have HB : Hid (Below w.heap.size w w) := Below.refl _ _
  clear h1 h2
  go_enter Tryd.func3, Tryd.ntmps3
  go_wp2_with fail
  refine (drawAddBig_c ao n c _ hn (HN.out.later HB.out HB.out.size)).mono ?_
  rintro e y1 ⟨⟨aA, qA, cA, xa, aB, qB, cB, xb, rfl, hqA, hqB, hlA, hlB, ho1, ho2⟩, hbb⟩
  have LNA : Hid (xa.length = qA) := hlA
  have LNB : Hid (xb.length = qB) := hlB
  obtain ⟨z2, hz2⟩ : ∃ x, ((y1.alloc (Obj.cells #[Value.slice aA qA cA] 25)).alloc (Obj.cells #[Value.slice aB qB cB] 25)) = x := ⟨_, rfl⟩
  have hnz2 : Below y1.heap.size y1 z2 := by rw [← hz2]; exact below_two _ _ _
  have hbz2 : Below w.heap.size w z2 := hbb.trans (hnz2.mono hbb.size)
  have hszz2 : w.heap.size ≤ y1.heap.size := Nat.le_trans HB.out.size hbb.size
  have hsO : w.heap.size ≤ w.heap.size := HB.out.size
  replace HB : Hid (Below w.heap.size w z2) := HB.out.trans (hbz2.mono HB.out.size)
  have kA : z2.cell? ⟨y1.heap.size, 0, none⟩ = some (.slice aA qA cA) := by rw [← hz2]; exact calloc (cnew _ _ _)
  have OA : Hid (Own z2 w.heap.size (.slice aA qA cA) xa) := (ho1.mono hsO).later hnz2
  have kB : z2.cell? ⟨y1.heap.size + 1, 0, none⟩ = some (.slice aB qB cB) := by rw [← hz2]; simp
  have OB : Hid (Own z2 w.heap.size (.slice aB qB cB) xb) := (ho2.mono hsO).later hnz2
  clear hnz2 hbz2 hsO
  clear ho1 ho2 hbb hlA hlB
  clear hl
  obtain ⟨zs, fs, hF⟩ : ∃ z b, addF xa xb = (z, b) := ⟨_, _, rfl⟩
  have HFs : Hid (addF xa xb = (zs, fs)) := hF
  obtain ⟨ps, hp⟩ : ∃ p, zs.length = p := ⟨_, rfl⟩
  have HPps : Hid (zs.length = ps) := hp
  have hp6ps : ps ≤ 6 := by rw [← hp]; exact addF_short hF
  clear hF hp
  obtain ⟨zq, zr, fd, hF⟩ : ∃ z u b, divF xa xb = (z, u, b) := ⟨_, _, _, rfl⟩
  have HFd : Hid (divF xa xb = (zq, zr, fd)) := hF
  have hsh := divF_short hF
  obtain ⟨pq, hp⟩ : ∃ p, zq.length = p := ⟨_, rfl⟩
  have HPpq : Hid (zq.length = pq) := hp
  rw [hp] at hsh
  clear hp
  obtain ⟨pr, hp⟩ : ∃ p, zr.length = p := ⟨_, rfl⟩
  have HPpr : Hid (zr.length = pr) := hp
  rw [hp] at hsh
  clear hp
  clear hF
  have e1 : (fs != fs) = false := by simp
  have e2 : (fd != fd) = false := by simp
  obtain ⟨ga, hga⟩ : ∃ g, goodB xa = g := ⟨_, rfl⟩
  have e3 : (ga != ga) = false := by simp
  have HGA : Hid (goodB xa = ga) := hga
  clear hga
  go_wp2_with fail
  clear hz2
  refine (implAdd_c aA aB qA qB cA cB xa xb _ LNA.out LNB.out (by omega) (by omega) OA.out.rd'.2 OB.out.rd'.2 zs fs ps HFs.out HPps.out).mono ?_
  rintro e y3 ⟨aS, cS, rfl, ho, hbb⟩
  obtain ⟨z4, hz4⟩ : ∃ x, (y3.alloc (Obj.cells #[Value.slice aS ps cS] 25)) = x := ⟨_, rfl⟩
  have hnz4 : Below y3.heap.size y3 z4 := by rw [← hz4]; exact balloc _ _
  have hbz4 : Below z2.heap.size z2 z4 := hbb.trans (hnz4.mono hbb.size)
  have hszz4 : w.heap.size ≤ y3.heap.size := Nat.le_trans HB.out.size hbb.size
  have hsO : w.heap.size ≤ z2.heap.size := HB.out.size
  replace kA : z4.cell? ⟨y1.heap.size, 0, none⟩ = some (.slice aA qA cA) := keepC hbz4 kA
  replace OA : Hid (Own z4 w.heap.size (.slice aA qA cA) xa) := OA.out.later hbz4
  replace kB : z4.cell? ⟨y1.heap.size + 1, 0, none⟩ = some (.slice aB qB cB) := keepC hbz4 kB
  replace OB : Hid (Own z4 w.heap.size (.slice aB qB cB) xb) := OB.out.later hbz4
  replace HB : Hid (Below w.heap.size w z4) := HB.out.trans (hbz4.mono HB.out.size)
  have kS : z4.cell? ⟨y3.heap.size, 0, none⟩ = some (.slice aS ps cS) := by rw [← hz4]; exact cnew _ _ _
  have OS : Hid (Own z4 w.heap.size (.slice aS ps cS) zs) := (ho.mono hsO).later hnz4
  clear hnz4 hbz4 hsO
  clear ho hbb
  go_wp2_with fail
  clear hz4
  refine (specAdd_c aA aB qA qB cA cB xa xb _ LNA.out LNB.out (by omega) (by omega) OA.out.rd'.2 OB.out.rd'.2 zs fs ps HFs.out HPps.out).mono ?_
  rintro e y5 ⟨aWA, cWA, rfl, ho, hbb⟩
  obtain ⟨z6, hz6⟩ : ∃ x, (y5.alloc (Obj.cells #[Value.slice aWA ps cWA] 25)) = x := ⟨_, rfl⟩
  have hnz6 : Below y5.heap.size y5 z6 := by rw [← hz6]; exact balloc _ _
  have hbz6 : Below z4.heap.size z4 z6 := hbb.trans (hnz6.mono hbb.size)
  have hszz6 : w.heap.size ≤ y5.heap.size := Nat.le_trans HB.out.size hbb.size
  have hsO : w.heap.size ≤ z4.heap.size := HB.out.size
  replace kA : z6.cell? ⟨y1.heap.size, 0, none⟩ = some (.slice aA qA cA) := keepC hbz6 kA
  replace OA : Hid (Own z6 w.heap.size (.slice aA qA cA) xa) := OA.out.later hbz6
  replace kB : z6.cell? ⟨y1.heap.size + 1, 0, none⟩ = some (.slice aB qB cB) := keepC hbz6 kB
  replace OB : Hid (Own z6 w.heap.size (.slice aB qB cB) xb) := OB.out.later hbz6
  replace kS : z6.cell? ⟨y3.heap.size, 0, none⟩ = some (.slice aS ps cS) := keepC hbz6 kS
  replace OS : Hid (Own z6 w.heap.size (.slice aS ps cS) zs) := OS.out.later hbz6
  replace HB : Hid (Below w.heap.size w z6) := HB.out.trans (hbz6.mono HB.out.size)
  have kWA : z6.cell? ⟨y5.heap.size, 0, none⟩ = some (.slice aWA ps cWA) := by rw [← hz6]; exact cnew _ _ _
  have OWA : Hid (Own z6 w.heap.size (.slice aWA ps cWA) zs) := (ho.mono hsO).later hnz6
  clear hnz6 hbz6 hsO
  clear ho hbb
  go_wp2_with fail
  clear hz6
  refine (implDiv_c aA aB qA qB cA cB xa xb _ LNA.out LNB.out (by omega) (by omega) OA.out.rd'.2 OB.out.rd'.2 zq zr fd pq pr HFd.out HPpq.out HPpr.out).mono ?_
  rintro e y7 ⟨aQ, cQ, aR, cR, MM, rfl, hoz, ho, hMM, hbb⟩
  obtain ⟨z8, hz8⟩ : ∃ x, ((y7.alloc (Obj.cells #[Value.slice aQ pq cQ] 25)).alloc (Obj.cells #[Value.slice aR pr cR] 25)) = x := ⟨_, rfl⟩
  have hnz8 : Below y7.heap.size y7 z8 := by rw [← hz8]; exact below_two _ _ _
  have hbz8 : Below z6.heap.size z6 z8 := hbb.trans (hnz8.mono hbb.size)
  have hszz8 : w.heap.size ≤ y7.heap.size := Nat.le_trans HB.out.size hbb.size
  have hsO : w.heap.size ≤ z6.heap.size := HB.out.size
  replace kA : z8.cell? ⟨y1.heap.size, 0, none⟩ = some (.slice aA qA cA) := keepC hbz8 kA
  replace OA : Hid (Own z8 w.heap.size (.slice aA qA cA) xa) := OA.out.later hbz8
  replace kB : z8.cell? ⟨y1.heap.size + 1, 0, none⟩ = some (.slice aB qB cB) := keepC hbz8 kB
  replace OB : Hid (Own z8 w.heap.size (.slice aB qB cB) xb) := OB.out.later hbz8
  replace kS : z8.cell? ⟨y3.heap.size, 0, none⟩ = some (.slice aS ps cS) := keepC hbz8 kS
  replace OS : Hid (Own z8 w.heap.size (.slice aS ps cS) zs) := OS.out.later hbz8
  replace kWA : z8.cell? ⟨y5.heap.size, 0, none⟩ = some (.slice aWA ps cWA) := keepC hbz8 kWA
  replace OWA : Hid (Own z8 w.heap.size (.slice aWA ps cWA) zs) := OWA.out.later hbz8
  replace HB : Hid (Below w.heap.size w z8) := HB.out.trans (hbz8.mono HB.out.size)
  have kQ : z8.cell? ⟨y7.heap.size, 0, none⟩ = some (.slice aQ pq cQ) := by rw [← hz8]; exact calloc (cnew _ _ _)
  have OQ : Hid (Own z8 w.heap.size (.slice aQ pq cQ) zq) := (hoz.mono hsO).later hnz8
  have kR : z8.cell? ⟨y7.heap.size + 1, 0, none⟩ = some (.slice aR pr cR) := by rw [← hz8]; simp
  have OR : Hid (Own z8 w.heap.size (.slice aR pr cR) zr) := (ho.mono (Nat.le_trans hsO hMM.1)).later hnz8
  clear hnz8 hbz8 hsO
  clear ho hoz hbb hMM
  go_wp2_with fail
  clear hz8
  refine (specDiv_c aA aB qA qB cA cB xa xb _ LNA.out LNB.out (by omega) (by omega) OA.out.rd'.2 OB.out.rd'.2 zq zr fd pq pr HFd.out HPpq.out HPpr.out).mono ?_
  rintro e y9 ⟨aQT, cQT, aRT, cRT, rfl, hoz, ho, hbb⟩
  obtain ⟨z10, hz10⟩ : ∃ x, ((y9.alloc (Obj.cells #[Value.slice aQT pq cQT] 25)).alloc (Obj.cells #[Value.slice aRT pr cRT] 25)) = x := ⟨_, rfl⟩
  have hnz10 : Below y9.heap.size y9 z10 := by rw [← hz10]; exact below_two _ _ _
  have hbz10 : Below z8.heap.size z8 z10 := hbb.trans (hnz10.mono hbb.size)
  have hszz10 : w.heap.size ≤ y9.heap.size := Nat.le_trans HB.out.size hbb.size
  have hsO : w.heap.size ≤ z8.heap.size := HB.out.size
  replace kA : z10.cell? ⟨y1.heap.size, 0, none⟩ = some (.slice aA qA cA) := keepC hbz10 kA
  replace OA : Hid (Own z10 w.heap.size (.slice aA qA cA) xa) := OA.out.later hbz10
  replace kB : z10.cell? ⟨y1.heap.size + 1, 0, none⟩ = some (.slice aB qB cB) := keepC hbz10 kB
  replace OB : Hid (Own z10 w.heap.size (.slice aB qB cB) xb) := OB.out.later hbz10
  replace kS : z10.cell? ⟨y3.heap.size, 0, none⟩ = some (.slice aS ps cS) := keepC hbz10 kS
  replace OS : Hid (Own z10 w.heap.size (.slice aS ps cS) zs) := OS.out.later hbz10
  replace kWA : z10.cell? ⟨y5.heap.size, 0, none⟩ = some (.slice aWA ps cWA) := keepC hbz10 kWA
  replace OWA : Hid (Own z10 w.heap.size (.slice aWA ps cWA) zs) := OWA.out.later hbz10
  replace kQ : z10.cell? ⟨y7.heap.size, 0, none⟩ = some (.slice aQ pq cQ) := keepC hbz10 kQ
  replace OQ : Hid (Own z10 w.heap.size (.slice aQ pq cQ) zq) := OQ.out.later hbz10
  replace kR : z10.cell? ⟨y7.heap.size + 1, 0, none⟩ = some (.slice aR pr cR) := keepC hbz10 kR
  replace OR : Hid (Own z10 w.heap.size (.slice aR pr cR) zr) := OR.out.later hbz10
  replace HB : Hid (Below w.heap.size w z10) := HB.out.trans (hbz10.mono HB.out.size)
  have kQT : z10.cell? ⟨y9.heap.size, 0, none⟩ = some (.slice aQT pq cQT) := by rw [← hz10]; exact calloc (cnew _ _ _)
  have OQT : Hid (Own z10 w.heap.size (.slice aQT pq cQT) zq) := (hoz.mono hsO).later hnz10
  have kRT : z10.cell? ⟨y9.heap.size + 1, 0, none⟩ = some (.slice aRT pr cRT) := by rw [← hz10]; simp
  have ORT : Hid (Own z10 w.heap.size (.slice aRT pr cRT) zr) := (ho.mono hsO).later hnz10
  clear hnz10 hbz10 hsO
  clear ho hoz hbb
  go_wp2_with fail
  clear hz10
  refine wp_region_held_drew (S := (fun w' => w'.cell? ⟨y1.heap.size, 0, none⟩ = some (.slice aA qA cA) ∧ w'.cell? ⟨y1.heap.size + 1, 0, none⟩ = some (.slice aB qB cB) ∧ w'.cell? ⟨y3.heap.size, 0, none⟩ = some (.slice aS ps cS) ∧ w'.cell? ⟨y5.heap.size, 0, none⟩ = some (.slice aWA ps cWA) ∧ w'.cell? ⟨y7.heap.size, 0, none⟩ = some (.slice aQ pq cQ) ∧ w'.cell? ⟨y7.heap.size + 1, 0, none⟩ = some (.slice aR pr cR) ∧ w'.cell? ⟨y9.heap.size, 0, none⟩ = some (.slice aQT pq cQT) ∧ w'.cell? ⟨y9.heap.size + 1, 0, none⟩ = some (.slice aRT pr cRT))) (by kernel_rfl) ?_ (fun hHeld => ?_)
  · exact ⟨kA, kB, kS, kWA, kQ, kR, kQT, kRT⟩
  replace OA : Hid (Own z10.drew w.heap.size (.slice aA qA cA) xa) := OA.out.later (Below.refl _ _).drew
  replace OB : Hid (Own z10.drew w.heap.size (.slice aB qB cB) xb) := OB.out.later (Below.refl _ _).drew
  replace OS : Hid (Own z10.drew w.heap.size (.slice aS ps cS) zs) := OS.out.later (Below.refl _ _).drew
  replace OWA : Hid (Own z10.drew w.heap.size (.slice aWA ps cWA) zs) := OWA.out.later (Below.refl _ _).drew
  replace OQ : Hid (Own z10.drew w.heap.size (.slice aQ pq cQ) zq) := OQ.out.later (Below.refl _ _).drew
  replace OR : Hid (Own z10.drew w.heap.size (.slice aR pr cR) zr) := OR.out.later (Below.refl _ _).drew
  replace OQT : Hid (Own z10.drew w.heap.size (.slice aQT pq cQT) zq) := OQT.out.later (Below.refl _ _).drew
  replace ORT : Hid (Own z10.drew w.heap.size (.slice aRT pr cRT) zr) := ORT.out.later (Below.refl _ _).drew
  replace HB : Hid (Below w.heap.size w z10.drew) := HB.out.drew
  clear kA kB kS kWA kQ kR kQT kRT
  generalize z10.drew = Dr at HB OA OB OS OWA OQ OR OQT ORT hHeld ⊢
  refine takeL1 (i := 0) (oi := _) (v := ?_) (d := some 87) rfl (by kernel_rfl) (by kernel_rfl) (by kernel_rfl) (by kernel_rfl) (fun _ _ _ h => h) (Or.inl ⟨by rfl, ?_⟩) (by assumption) ?_
  rotate_left
  · (intro w hSw; (try dsimp only at hSw); go_simp <;> with_reducible rfl)
  try simp only [Act.put, List.setIfInBounds_toArray, List.set_cons_zero, List.set_cons_succ]
  refine takeL1 (i := 1) (oi := _) (v := ?_) (d := some 88) rfl (by kernel_rfl) (by kernel_rfl) (by kernel_rfl) (by kernel_rfl) (fun _ _ _ h => h) (Or.inl ⟨by rfl, ?_⟩) (by assumption) ?_
  rotate_left
  · (intro w hSw; (try dsimp only at hSw); go_simp <;> with_reducible rfl)
  try simp only [Act.put, List.setIfInBounds_toArray, List.set_cons_zero, List.set_cons_succ]
  refine takeL1 (i := 2) (oi := _) (v := ?_) (d := some 89) rfl (by kernel_rfl) (by kernel_rfl) (by kernel_rfl) (by kernel_rfl) (fun _ _ _ h => h) (Or.inl ⟨by rfl, ?_⟩) (by assumption) ?_
  rotate_left
  · (intro w hSw; (try dsimp only at hSw); go_simp <;> with_reducible rfl)
  try simp only [Act.put, List.setIfInBounds_toArray, List.set_cons_zero, List.set_cons_succ]
  refine takeL1 (i := 3) (oi := _) (v := ?_) (d := some 90) rfl (by kernel_rfl) (by kernel_rfl) (by kernel_rfl) (by kernel_rfl) (fun _ _ _ h => h) (Or.inl ⟨by rfl, ?_⟩) (by assumption) ?_
  rotate_left
  · (intro w hSw; (try dsimp only at hSw); go_simp <;> with_reducible rfl)
  try simp only [Act.put, List.setIfInBounds_toArray, List.set_cons_zero, List.set_cons_succ]
  refine takeL1 (i := 4) (oi := _) (v := ?_) (d := some 91) rfl (by kernel_rfl) (by kernel_rfl) (by kernel_rfl) (by kernel_rfl) (fun _ _ _ h => h) (Or.inl ⟨by rfl, ?_⟩) (by assumption) ?_
  rotate_left
  · (intro w hSw; (try dsimp only at hSw); go_simp <;> with_reducible rfl)
  try simp only [Act.put, List.setIfInBounds_toArray, List.set_cons_zero, List.set_cons_succ]
  refine takeL1 (i := 5) (oi := _) (v := ?_) (d := some 92) rfl (by kernel_rfl) (by kernel_rfl) (by kernel_rfl) (by kernel_rfl) (fun _ _ _ h => h) (Or.inl ⟨by rfl, ?_⟩) (by assumption) ?_
  rotate_left
  · (intro w hSw; (try dsimp only at hSw); go_simp <;> with_reducible rfl)
  try simp only [Act.put, List.setIfInBounds_toArray, List.set_cons_zero, List.set_cons_succ]
  refine wpAnyH_ready (rs := [6]) (by kernel_rfl) (by simp) ?_
  refine AllReadyH.cons (o := _) rfl (fun K hK => ?_) AllReadyH.nil
  go_simp
  refine (sameBig_t _ HPps.out (by omega) OS.out.rd'.2 OWA.out.rd'.2).mono ?_
  rintro e y11 ⟨rfl, hbb⟩
  refine hK.out _ _ ?_ (fun hHeld => ?_)
  · exact ⟨keepC hbb (hHeld.1), keepC hbb (hHeld.2.1), keepC hbb (hHeld.2.2.1), keepC hbb (hHeld.2.2.2.1), keepC hbb (hHeld.2.2.2.2.1), keepC hbb (hHeld.2.2.2.2.2.1), keepC hbb (hHeld.2.2.2.2.2.2.1), keepC hbb (hHeld.2.2.2.2.2.2.2)⟩
  clear hK K
  try simp only [Act.put, List.setIfInBounds_toArray, List.set_cons_zero, List.set_cons_succ]
  replace OA : Hid (Own y11 w.heap.size (.slice aA qA cA) xa) := OA.out.later hbb
  replace OB : Hid (Own y11 w.heap.size (.slice aB qB cB) xb) := OB.out.later hbb
  replace OS : Hid (Own y11 w.heap.size (.slice aS ps cS) zs) := OS.out.later hbb
  replace OWA : Hid (Own y11 w.heap.size (.slice aWA ps cWA) zs) := OWA.out.later hbb
  replace OQ : Hid (Own y11 w.heap.size (.slice aQ pq cQ) zq) := OQ.out.later hbb
  replace OR : Hid (Own y11 w.heap.size (.slice aR pr cR) zr) := OR.out.later hbb
  replace OQT : Hid (Own y11 w.heap.size (.slice aQT pq cQT) zq) := OQT.out.later hbb
  replace ORT : Hid (Own y11 w.heap.size (.slice aRT pr cRT) zr) := ORT.out.later hbb
  replace HB : Hid (Below w.heap.size w y11) := HB.out.trans (hbb.mono HB.out.size)
  clear hbb
  refine takeL1 (i := 7) (oi := _) (v := ?_) (d := some 94) rfl (by kernel_rfl) (by kernel_rfl) (by kernel_rfl) (by kernel_rfl) (fun _ _ _ h => h) (Or.inl ⟨by rfl, ?_⟩) (by assumption) ?_
  rotate_left
  · (intro w hSw; (try dsimp only at hSw); go_simp <;> with_reducible rfl)
  try simp only [Act.put, List.setIfInBounds_toArray, List.set_cons_zero, List.set_cons_succ]
  refine takeL1 (i := 8) (oi := _) (v := ?_) (d := some 95) rfl (by kernel_rfl) (by kernel_rfl) (by kernel_rfl) (by kernel_rfl) (fun _ _ _ h => h) (Or.inl ⟨by rfl, ?_⟩) (by assumption) ?_
  rotate_left
  · (intro w hSw; (try dsimp only at hSw); go_simp <;> with_reducible rfl)
  try simp only [Act.put, List.setIfInBounds_toArray, List.set_cons_zero, List.set_cons_succ]
  refine takeL1 (i := 9) (oi := _) (v := ?_) (d := some 96) rfl (by kernel_rfl) (by kernel_rfl) (by kernel_rfl) (by kernel_rfl) (fun _ _ _ h => h) (Or.inl ⟨by rfl, ?_⟩) (by assumption) ?_
  rotate_left
  · (intro w hSw; (try dsimp only at hSw); go_simp <;> with_reducible rfl)
  try simp only [Act.put, List.setIfInBounds_toArray, List.set_cons_zero, List.set_cons_succ]
  refine takeL1 (i := 10) (oi := _) (v := ?_) (d := some 97) rfl (by kernel_rfl) (by kernel_rfl) (by kernel_rfl) (by kernel_rfl) (fun _ _ _ h => h) (Or.inl ⟨by rfl, ?_⟩) (by assumption) ?_
  rotate_left
  · (intro w hSw; (try dsimp only at hSw); go_simp <;> with_reducible rfl)
  try simp only [Act.put, List.setIfInBounds_toArray, List.set_cons_zero, List.set_cons_succ]
  refine takeL1 (i := 11) (oi := _) (v := ?_) (d := some 98) rfl (by kernel_rfl) (by kernel_rfl) (by kernel_rfl) (by kernel_rfl) (fun _ _ _ h => h) (Or.inl ⟨by rfl, ?_⟩) (by assumption) ?_
  rotate_left
  · (intro w hSw; (try dsimp only at hSw); go_simp <;> with_reducible rfl)
  try simp only [Act.put, List.setIfInBounds_toArray, List.set_cons_zero, List.set_cons_succ]
  refine takeL1 (i := 12) (oi := _) (v := ?_) (d := some 99) rfl (by kernel_rfl) (by kernel_rfl) (by kernel_rfl) (by kernel_rfl) (fun _ _ _ h => h) (Or.inl ⟨by rfl, ?_⟩) (by assumption) ?_
  rotate_left
  · (intro w hSw; (try dsimp only at hSw); go_simp <;> with_reducible rfl)
  try simp only [Act.put, List.setIfInBounds_toArray, List.set_cons_zero, List.set_cons_succ]
  refine takeL1 (i := 13) (oi := _) (v := ?_) (d := some 100) rfl (by kernel_rfl) (by kernel_rfl) (by kernel_rfl) (by kernel_rfl) (fun _ _ _ h => h) (Or.inl ⟨by rfl, ?_⟩) (by assumption) ?_
  rotate_left
  · (intro w hSw; (try dsimp only at hSw); go_simp <;> with_reducible rfl)
  try simp only [Act.put, List.setIfInBounds_toArray, List.set_cons_zero, List.set_cons_succ]
  refine takeL1 (i := 14) (oi := _) (v := ?_) (d := some 101) rfl (by kernel_rfl) (by kernel_rfl) (by kernel_rfl) (by kernel_rfl) (fun _ _ _ h => h) (Or.inl ⟨by rfl, ?_⟩) (by assumption) ?_
  rotate_left
  · (intro w hSw; (try dsimp only at hSw); go_simp <;> with_reducible rfl)
  try simp only [Act.put, List.setIfInBounds_toArray, List.set_cons_zero, List.set_cons_succ]
  refine takeL1 (i := 15) (oi := _) (v := ?_) (d := some 102) rfl (by kernel_rfl) (by kernel_rfl) (by kernel_rfl) (by kernel_rfl) (fun _ _ _ h => h) (Or.inl ⟨by rfl, ?_⟩) (by assumption) ?_
  rotate_left
  · (intro w hSw; (try dsimp only at hSw); go_simp <;> with_reducible rfl)
  try simp only [Act.put, List.setIfInBounds_toArray, List.set_cons_zero, List.set_cons_succ]
  refine takeL1 (i := 16) (oi := _) (v := ?_) (d := some 103) rfl (by kernel_rfl) (by kernel_rfl) (by kernel_rfl) (by kernel_rfl) (fun _ _ _ h => h) (Or.inl ⟨by rfl, ?_⟩) (by assumption) ?_
  rotate_left
  · (intro w hSw; (try dsimp only at hSw); go_simp <;> with_reducible rfl)
  try simp only [Act.put, List.setIfInBounds_toArray, List.set_cons_zero, List.set_cons_succ]
  refine wpAnyH_ready (rs := [17]) (by kernel_rfl) (by simp) ?_
  refine AllReadyH.cons (o := _) rfl (fun K hK => ?_) AllReadyH.nil
  go_simp
  refine (sameBig_t _ HPpq.out (by omega) OQ.out.rd'.2 OQT.out.rd'.2).mono ?_
  rintro e y12 ⟨rfl, hbb⟩
  refine hK.out _ _ ?_ (fun hHeld => ?_)
  · exact ⟨keepC hbb (hHeld.1), keepC hbb (hHeld.2.1), keepC hbb (hHeld.2.2.1), keepC hbb (hHeld.2.2.2.1), keepC hbb (hHeld.2.2.2.2.1), keepC hbb (hHeld.2.2.2.2.2.1), keepC hbb (hHeld.2.2.2.2.2.2.1), keepC hbb (hHeld.2.2.2.2.2.2.2)⟩
  clear hK K
  try simp only [Act.put, List.setIfInBounds_toArray, List.set_cons_zero, List.set_cons_succ]
  replace OA : Hid (Own y12 w.heap.size (.slice aA qA cA) xa) := OA.out.later hbb
  replace OB : Hid (Own y12 w.heap.size (.slice aB qB cB) xb) := OB.out.later hbb
  replace OS : Hid (Own y12 w.heap.size (.slice aS ps cS) zs) := OS.out.later hbb
  replace OWA : Hid (Own y12 w.heap.size (.slice aWA ps cWA) zs) := OWA.out.later hbb
  replace OQ : Hid (Own y12 w.heap.size (.slice aQ pq cQ) zq) := OQ.out.later hbb
  replace OR : Hid (Own y12 w.heap.size (.slice aR pr cR) zr) := OR.out.later hbb
  replace OQT : Hid (Own y12 w.heap.size (.slice aQT pq cQT) zq) := OQT.out.later hbb
  replace ORT : Hid (Own y12 w.heap.size (.slice aRT pr cRT) zr) := ORT.out.later hbb
  replace HB : Hid (Below w.heap.size w y12) := HB.out.trans (hbb.mono HB.out.size)
  clear hbb
  refine takeL1 (i := 18) (oi := _) (v := ?_) (d := some 105) rfl (by kernel_rfl) (by kernel_rfl) (by kernel_rfl) (by kernel_rfl) (fun _ _ _ h => h) (Or.inl ⟨by rfl, ?_⟩) (by assumption) ?_
  rotate_left
  · (intro w hSw; (try dsimp only at hSw); go_simp <;> with_reducible rfl)
  try simp only [Act.put, List.setIfInBounds_toArray, List.set_cons_zero, List.set_cons_succ]
  refine takeL1 (i := 19) (oi := _) (v := ?_) (d := some 106) rfl (by kernel_rfl) (by kernel_rfl) (by kernel_rfl) (by kernel_rfl) (fun _ _ _ h => h) (Or.inl ⟨by rfl, ?_⟩) (by assumption) ?_
  rotate_left
  · (intro w hSw; (try dsimp only at hSw); go_simp <;> with_reducible rfl)
  try simp only [Act.put, List.setIfInBounds_toArray, List.set_cons_zero, List.set_cons_succ]
  refine takeL1 (i := 20) (oi := _) (v := ?_) (d := some 107) rfl (by kernel_rfl) (by kernel_rfl) (by kernel_rfl) (by kernel_rfl) (fun _ _ _ h => h) (Or.inl ⟨by rfl, ?_⟩) (by assumption) ?_
  rotate_left
  · (intro w hSw; (try dsimp only at hSw); go_simp <;> with_reducible rfl)
  try simp only [Act.put, List.setIfInBounds_toArray, List.set_cons_zero, List.set_cons_succ]
  refine takeL1 (i := 21) (oi := _) (v := ?_) (d := some 108) rfl (by kernel_rfl) (by kernel_rfl) (by kernel_rfl) (by kernel_rfl) (fun _ _ _ h => h) (Or.inl ⟨by rfl, ?_⟩) (by assumption) ?_
  rotate_left
  · (intro w hSw; (try dsimp only at hSw); go_simp <;> with_reducible rfl)
  try simp only [Act.put, List.setIfInBounds_toArray, List.set_cons_zero, List.set_cons_succ]
  refine takeL1 (i := 22) (oi := _) (v := ?_) (d := some 109) rfl (by kernel_rfl) (by kernel_rfl) (by kernel_rfl) (by kernel_rfl) (fun _ _ _ h => h) (Or.inl ⟨by rfl, ?_⟩) (by assumption) ?_
  rotate_left
  · (intro w hSw; (try dsimp only at hSw); go_simp <;> with_reducible rfl)
  try simp only [Act.put, List.setIfInBounds_toArray, List.set_cons_zero, List.set_cons_succ]
  refine wpAnyH_ready (rs := [23]) (by kernel_rfl) (by simp) ?_
  refine AllReadyH.cons (o := _) rfl (fun K hK => ?_) AllReadyH.nil
  go_simp
  refine (sameBig_t _ HPpr.out (by omega) OR.out.rd'.2 ORT.out.rd'.2).mono ?_
  rintro e y13 ⟨rfl, hbb⟩
  refine hK.out _ _ ?_ (fun hHeld => ?_)
  · exact ⟨keepC hbb (hHeld.1), keepC hbb (hHeld.2.1), keepC hbb (hHeld.2.2.1), keepC hbb (hHeld.2.2.2.1), keepC hbb (hHeld.2.2.2.2.1), keepC hbb (hHeld.2.2.2.2.2.1), keepC hbb (hHeld.2.2.2.2.2.2.1), keepC hbb (hHeld.2.2.2.2.2.2.2)⟩
  clear hK K
  try simp only [Act.put, List.setIfInBounds_toArray, List.set_cons_zero, List.set_cons_succ]
  replace OA : Hid (Own y13 w.heap.size (.slice aA qA cA) xa) := OA.out.later hbb
  replace OB : Hid (Own y13 w.heap.size (.slice aB qB cB) xb) := OB.out.later hbb
  replace OS : Hid (Own y13 w.heap.size (.slice aS ps cS) zs) := OS.out.later hbb
  replace OWA : Hid (Own y13 w.heap.size (.slice aWA ps cWA) zs) := OWA.out.later hbb
  replace OQ : Hid (Own y13 w.heap.size (.slice aQ pq cQ) zq) := OQ.out.later hbb
  replace OR : Hid (Own y13 w.heap.size (.slice aR pr cR) zr) := OR.out.later hbb
  replace OQT : Hid (Own y13 w.heap.size (.slice aQT pq cQT) zq) := OQT.out.later hbb
  replace ORT : Hid (Own y13 w.heap.size (.slice aRT pr cRT) zr) := ORT.out.later hbb
  replace HB : Hid (Below w.heap.size w y13) := HB.out.trans (hbb.mono HB.out.size)
  clear hbb
  refine takeL1 (i := 24) (oi := _) (v := ?_) (d := some 111) rfl (by kernel_rfl) (by kernel_rfl) (by kernel_rfl) (by kernel_rfl) (fun _ _ _ h => h) (Or.inl ⟨by rfl, ?_⟩) (by assumption) ?_
  rotate_left
  · (intro w hSw; (try dsimp only at hSw); go_simp <;> with_reducible rfl)
  try simp only [Act.put, List.setIfInBounds_toArray, List.set_cons_zero, List.set_cons_succ]
  refine takeL1 (i := 25) (oi := _) (v := ?_) (d := some 112) rfl (by kernel_rfl) (by kernel_rfl) (by kernel_rfl) (by kernel_rfl) (fun _ _ _ h => h) (Or.inl ⟨by rfl, ?_⟩) (by assumption) ?_
  rotate_left
  · (intro w hSw; (try dsimp only at hSw); go_simp <;> with_reducible rfl)
  try simp only [Act.put, List.setIfInBounds_toArray, List.set_cons_zero, List.set_cons_succ]
  refine takeL1 (i := 26) (oi := _) (v := ?_) (d := some 113) rfl (by kernel_rfl) (by kernel_rfl) (by kernel_rfl) (by kernel_rfl) (fun _ _ _ h => h) (Or.inl ⟨by rfl, ?_⟩) (by assumption) ?_
  rotate_left
  · (intro w hSw; (try dsimp only at hSw); go_simp <;> with_reducible rfl)
  try simp only [Act.put, List.setIfInBounds_toArray, List.set_cons_zero, List.set_cons_succ]
  refine takeL1 (i := 27) (oi := _) (v := ?_) (d := some 114) rfl (by kernel_rfl) (by kernel_rfl) (by kernel_rfl) (by kernel_rfl) (fun _ _ _ h => h) (Or.inl ⟨by rfl, ?_⟩) (by assumption) ?_
  rotate_left
  · (intro w hSw; (try dsimp only at hSw); go_simp <;> with_reducible rfl)
  try simp only [Act.put, List.setIfInBounds_toArray, List.set_cons_zero, List.set_cons_succ]
  refine takeL1 (i := 29) (oi := _) (v := ?_) (d := some 116) rfl (by kernel_rfl) (by kernel_rfl) (by kernel_rfl) (by kernel_rfl) (fun _ _ _ h => h) (Or.inl ⟨by rfl, ?_⟩) (by assumption) ?_
  rotate_left
  · (intro w hSw; (try dsimp only at hSw); go_simp <;> with_reducible rfl)
  try simp only [Act.put, List.setIfInBounds_toArray, List.set_cons_zero, List.set_cons_succ]
  refine wpAnyH_ready (rs := [28]) (by kernel_rfl) (by simp) ?_
  refine AllReadyH.cons (o := _) rfl (fun K hK => ?_) AllReadyH.nil
  go_simp
  refine (implGood_c aA qA cA xa _ LNA.out (by omega) OA.out.rd'.2).mono ?_
  rw [HGA.out]
  rintro e y14 ⟨rfl, hbb⟩
  refine hK.out _ _ ?_ (fun hHeld => ?_)
  · exact ⟨keepC hbb (hHeld.1), keepC hbb (hHeld.2.1), keepC hbb (hHeld.2.2.1), keepC hbb (hHeld.2.2.2.1), keepC hbb (hHeld.2.2.2.2.1), keepC hbb (hHeld.2.2.2.2.2.1), keepC hbb (hHeld.2.2.2.2.2.2.1), keepC hbb (hHeld.2.2.2.2.2.2.2)⟩
  clear hK K
  try simp only [Act.put, List.setIfInBounds_toArray, List.set_cons_zero, List.set_cons_succ]
  replace OA : Hid (Own y14 w.heap.size (.slice aA qA cA) xa) := OA.out.later hbb
  replace OB : Hid (Own y14 w.heap.size (.slice aB qB cB) xb) := OB.out.later hbb
  replace OS : Hid (Own y14 w.heap.size (.slice aS ps cS) zs) := OS.out.later hbb
  replace OWA : Hid (Own y14 w.heap.size (.slice aWA ps cWA) zs) := OWA.out.later hbb
  replace OQ : Hid (Own y14 w.heap.size (.slice aQ pq cQ) zq) := OQ.out.later hbb
  replace OR : Hid (Own y14 w.heap.size (.slice aR pr cR) zr) := OR.out.later hbb
  replace OQT : Hid (Own y14 w.heap.size (.slice aQT pq cQT) zq) := OQT.out.later hbb
  replace ORT : Hid (Own y14 w.heap.size (.slice aRT pr cRT) zr) := ORT.out.later hbb
  replace HB : Hid (Below w.heap.size w y14) := HB.out.trans (hbb.mono HB.out.size)
  clear hbb
  refine wpAnyH_ready (rs := [30]) (by kernel_rfl) (by simp) ?_
  refine AllReadyH.cons (o := _) rfl (fun K hK => ?_) AllReadyH.nil
  go_simp
  refine (specGood_c aA qA cA xa _ LNA.out (by omega) OA.out.rd'.2).mono ?_
  rw [HGA.out]
  rintro e y15 ⟨rfl, hbb⟩
  refine hK.out _ _ ?_ (fun hHeld => ?_)
  · exact ⟨keepC hbb (hHeld.1), keepC hbb (hHeld.2.1), keepC hbb (hHeld.2.2.1), keepC hbb (hHeld.2.2.2.1), keepC hbb (hHeld.2.2.2.2.1), keepC hbb (hHeld.2.2.2.2.2.1), keepC hbb (hHeld.2.2.2.2.2.2.1), keepC hbb (hHeld.2.2.2.2.2.2.2)⟩
  clear hK K
  try simp only [Act.put, List.setIfInBounds_toArray, List.set_cons_zero, List.set_cons_succ]
  replace OA : Hid (Own y15 w.heap.size (.slice aA qA cA) xa) := OA.out.later hbb
  replace OB : Hid (Own y15 w.heap.size (.slice aB qB cB) xb) := OB.out.later hbb
  replace OS : Hid (Own y15 w.heap.size (.slice aS ps cS) zs) := OS.out.later hbb
  replace OWA : Hid (Own y15 w.heap.size (.slice aWA ps cWA) zs) := OWA.out.later hbb
  replace OQ : Hid (Own y15 w.heap.size (.slice aQ pq cQ) zq) := OQ.out.later hbb
  replace OR : Hid (Own y15 w.heap.size (.slice aR pr cR) zr) := OR.out.later hbb
  replace OQT : Hid (Own y15 w.heap.size (.slice aQT pq cQT) zq) := OQT.out.later hbb
  replace ORT : Hid (Own y15 w.heap.size (.slice aRT pr cRT) zr) := ORT.out.later hbb
  replace HB : Hid (Below w.heap.size w y15) := HB.out.trans (hbb.mono HB.out.size)
  clear hbb
  refine takeL1 (i := 31) (oi := _) (v := ?_) (d := some 118) rfl (by kernel_rfl) (by kernel_rfl) (by kernel_rfl) (by kernel_rfl) (fun _ _ _ h => h) (Or.inl ⟨by rfl, ?_⟩) (by assumption) ?_
  rotate_left
  · (intro w hSw; (try dsimp only at hSw); go_simp <;> with_reducible rfl)
  try simp only [Act.put, List.setIfInBounds_toArray, List.set_cons_zero, List.set_cons_succ]
  refine takeL1 (i := 32) (oi := _) (v := ?_) (d := some 119) rfl (by kernel_rfl) (by kernel_rfl) (by kernel_rfl) (by kernel_rfl) (fun _ _ _ h => h) (Or.inl ⟨by rfl, ?_⟩) (by assumption) ?_
  rotate_left
  · (intro w hSw; (try dsimp only at hSw); go_simp <;> with_reducible rfl)
  try simp only [Act.put, List.setIfInBounds_toArray, List.set_cons_zero, List.set_cons_succ]
  refine wpAnyH_done (by kernel_rfl) ?_ _
  obtain ⟨kA, kB, kS, kWA, kQ, kR, kQT, kRT⟩ := hHeld
  clear kWA OWA
  clear kQT OQT
  clear kRT ORT
  clear HGA
  cases fs with
  | false =>
    clear HFs
    clear kS OS
    cases fd with
    | false =>
      clear HFd e1 e2 e3
      clear kA OA
      clear kB OB
      clear kQ OQ
      clear kR OR
      go_wp2_with fail
      refine (drawDigits_c bo m d _ hm (HM.out.later HB.out HB.out.size)).mono ?_
      rintro e y16 ⟨aX, qX, cX, xx, rfl, hqX, hlX, ho, hbb⟩
      have LNX : Hid (xx.length = qX) := hlX
      obtain ⟨z17, hz17⟩ : ∃ x, (y16.alloc (Obj.cells #[Value.slice aX qX cX] 25)) = x := ⟨_, rfl⟩
      have hnz17 : Below y16.heap.size y16 z17 := by rw [← hz17]; exact balloc _ _
      have hbz17 : Below y15.heap.size y15 z17 := hbb.trans (hnz17.mono hbb.size)
      have hszz17 : w.heap.size ≤ y16.heap.size := Nat.le_trans HB.out.size hbb.size
      have hsO : w.heap.size ≤ y15.heap.size := HB.out.size
      replace HB : Hid (Below w.heap.size w z17) := HB.out.trans (hbz17.mono HB.out.size)
      have kX : z17.cell? ⟨y16.heap.size, 0, none⟩ = some (.slice aX qX cX) := by rw [← hz17]; exact cnew _ _ _
      have OX : Hid (Own z17 w.heap.size (.slice aX qX cX) xx) := (ho.mono hsO).later hnz17
      clear hnz17 hbz17 hsO
      clear ho hbb hlX
      obtain ⟨St, ft, hF⟩ : ∃ z b, digitsF xx = (z, b) := ⟨_, _, rfl⟩
      have HFt : Hid (digitsF xx = (St, ft)) := hF
      have hst := digitsF_size hF
      clear hF
      go_wp2_with fail
      clear hz17
      refine (implDigits_c aX qX cX xx _ LNX.out (by omega) OX.out.rd'.2 St ft HFt.out).mono ?_
      rintro e y18 ⟨rfl, hbb⟩
      replace kX : y18.cell? ⟨y16.heap.size, 0, none⟩ = some (.slice aX qX cX) := keepC hbb kX
      replace OX : Hid (Own y18 w.heap.size (.slice aX qX cX) xx) := OX.out.later hbb
      replace HB : Hid (Below w.heap.size w y18) := HB.out.trans (hbb.mono HB.out.size)
      clear hbb
      go_wp2_with fail
      refine (specDigits_c aX qX cX xx _ LNX.out (by omega) OX.out.rd'.2 St ft HFt.out).mono ?_
      rintro e y19 ⟨rfl, hbb⟩
      replace kX : y19.cell? ⟨y16.heap.size, 0, none⟩ = some (.slice aX qX cX) := keepC hbb kX
      replace OX : Hid (Own y19 w.heap.size (.slice aX qX cX) xx) := OX.out.later hbb
      replace HB : Hid (Below w.heap.size w y19) := HB.out.trans (hbb.mono HB.out.size)
      clear hbb
      go_wp2_with fail
      refine (drawOf_c bo m d _ hm (HM.out.later HB.out HB.out.size)).mono ?_
      rintro e y20 ⟨Su, rfl, hsu, hbb⟩
      replace kX : y20.cell? ⟨y16.heap.size, 0, none⟩ = some (.slice aX qX cX) := keepC hbb kX
      replace OX : Hid (Own y20 w.heap.size (.slice aX qX cX) xx) := OX.out.later hbb
      replace HB : Hid (Below w.heap.size w y20) := HB.out.trans (hbb.mono HB.out.size)
      clear hbb
      obtain ⟨zy, fy, hF⟩ : ∃ z b, digF (byts Su) = (z, b) := ⟨_, _, rfl⟩
      have HFy : Hid (digF (byts Su) = (zy, fy)) := hF
      obtain ⟨py, hp⟩ : ∃ p, zy.length = p := ⟨_, rfl⟩
      have HPpy : Hid (zy.length = py) := hp
      have hp6y : py ≤ 6 := by rw [← hp]; exact digF_short hF
      clear hF hp
      have e4 : (ft != ft) = false := by simp
      have e5 : (fy != fy) = false := by simp
      have e8 : (St.toList != St.toList) = false := by simp
      go_wp2_with fail
      refine (implDec_c Su _ (by omega) zy fy py HFy.out HPpy.out).mono ?_
      rintro e y21 ⟨aY, cY, rfl, ho, hbb⟩
      obtain ⟨z22, hz22⟩ : ∃ x, (y21.alloc (Obj.cells #[Value.slice aY py cY] 25)) = x := ⟨_, rfl⟩
      have hnz22 : Below y21.heap.size y21 z22 := by rw [← hz22]; exact balloc _ _
      have hbz22 : Below y20.heap.size y20 z22 := hbb.trans (hnz22.mono hbb.size)
      have hszz22 : w.heap.size ≤ y21.heap.size := Nat.le_trans HB.out.size hbb.size
      have hsO : w.heap.size ≤ y20.heap.size := HB.out.size
      replace kX : z22.cell? ⟨y16.heap.size, 0, none⟩ = some (.slice aX qX cX) := keepC hbz22 kX
      replace OX : Hid (Own z22 w.heap.size (.slice aX qX cX) xx) := OX.out.later hbz22
      replace HB : Hid (Below w.heap.size w z22) := HB.out.trans (hbz22.mono HB.out.size)
      have kY : z22.cell? ⟨y21.heap.size, 0, none⟩ = some (.slice aY py cY) := by rw [← hz22]; exact cnew _ _ _
      have OY : Hid (Own z22 w.heap.size (.slice aY py cY) zy) := (ho.mono hsO).later hnz22
      clear hnz22 hbz22 hsO
      clear ho hbb
      go_wp2_with fail
      clear hz22
      refine (specDec_c Su _ (by omega) zy fy py HFy.out HPpy.out).mono ?_
      rintro e y23 ⟨aOF, cOF, rfl, ho, hbb⟩
      obtain ⟨z24, hz24⟩ : ∃ x, (y23.alloc (Obj.cells #[Value.slice aOF py cOF] 25)) = x := ⟨_, rfl⟩
      have hnz24 : Below y23.heap.size y23 z24 := by rw [← hz24]; exact balloc _ _
      have hbz24 : Below z22.heap.size z22 z24 := hbb.trans (hnz24.mono hbb.size)
      have hszz24 : w.heap.size ≤ y23.heap.size := Nat.le_trans HB.out.size hbb.size
      have hsO : w.heap.size ≤ z22.heap.size := HB.out.size
      replace kX : z24.cell? ⟨y16.heap.size, 0, none⟩ = some (.slice aX qX cX) := keepC hbz24 kX
      replace OX : Hid (Own z24 w.heap.size (.slice aX qX cX) xx) := OX.out.later hbz24
      replace kY : z24.cell? ⟨y21.heap.size, 0, none⟩ = some (.slice aY py cY) := keepC hbz24 kY
      replace OY : Hid (Own z24 w.heap.size (.slice aY py cY) zy) := OY.out.later hbz24
      replace HB : Hid (Below w.heap.size w z24) := HB.out.trans (hbz24.mono HB.out.size)
      have kOF : z24.cell? ⟨y23.heap.size, 0, none⟩ = some (.slice aOF py cOF) := by rw [← hz24]; exact cnew _ _ _
      have OOF : Hid (Own z24 w.heap.size (.slice aOF py cOF) zy) := (ho.mono hsO).later hnz24
      clear hnz24 hbz24 hsO
      clear ho hbb
      go_wp2_with fail
      clear hz24
      refine (sameBig_t _ HPpy.out (by omega) OY.out.rd'.2 OOF.out.rd'.2).mono ?_
      rintro e y25 ⟨rfl, hbb⟩
      replace kX : y25.cell? ⟨y16.heap.size, 0, none⟩ = some (.slice aX qX cX) := keepC hbb kX
      replace OX : Hid (Own y25 w.heap.size (.slice aX qX cX) xx) := OX.out.later hbb
      replace kY : y25.cell? ⟨y21.heap.size, 0, none⟩ = some (.slice aY py cY) := keepC hbb kY
      replace OY : Hid (Own y25 w.heap.size (.slice aY py cY) zy) := OY.out.later hbb
      replace kOF : y25.cell? ⟨y23.heap.size, 0, none⟩ = some (.slice aOF py cOF) := keepC hbb kOF
      replace OOF : Hid (Own y25 w.heap.size (.slice aOF py cOF) zy) := OOF.out.later hbb
      replace HB : Hid (Below w.heap.size w y25) := HB.out.trans (hbb.mono HB.out.size)
      clear hbb
      clear kY OY
      clear kOF OOF
      clear e4 e5 e8
      cases ft with
      | false =>
        clear HFt
        clear kX OX
        go_wp2_with fail
        refine (drawShift_c bo m d _ hm (HM.out.later HB.out HB.out.size)).mono ?_
        rintro e y26 ⟨aZ, qZ, cZ, xz, by_, rfl, hqZ, hlZ, hby, ho, hbb⟩
        have LNZ : Hid (xz.length = qZ) := hlZ
        obtain ⟨z27, hz27⟩ : ∃ x, (y26.alloc (Obj.cells #[Value.slice aZ qZ cZ] 25)) = x := ⟨_, rfl⟩
        have hnz27 : Below y26.heap.size y26 z27 := by rw [← hz27]; exact balloc _ _
        have hbz27 : Below y25.heap.size y25 z27 := hbb.trans (hnz27.mono hbb.size)
        have hszz27 : w.heap.size ≤ y26.heap.size := Nat.le_trans HB.out.size hbb.size
        have hsO : w.heap.size ≤ y25.heap.size := HB.out.size
        replace HB : Hid (Below w.heap.size w z27) := HB.out.trans (hbz27.mono HB.out.size)
        have kZ : z27.cell? ⟨y26.heap.size, 0, none⟩ = some (.slice aZ qZ cZ) := by rw [← hz27]; exact cnew _ _ _
        have OZ : Hid (Own z27 w.heap.size (.slice aZ qZ cZ) xz) := (ho.mono hsO).later hnz27
        clear hnz27 hbz27 hsO
        clear ho hbb hlZ
        obtain ⟨zh, fh, hF⟩ : ∃ z b, shiftF xz by_ = (z, b) := ⟨_, _, rfl⟩
        have HFh : Hid (shiftF xz by_ = (zh, fh)) := hF
        obtain ⟨ph, hp⟩ : ∃ p, zh.length = p := ⟨_, rfl⟩
        have HPph : Hid (zh.length = ph) := hp
        have hp6h : ph ≤ 6 := by rw [← hp]; exact shiftF_less hF
        clear hF hp
        go_wp2_with fail
        clear hz27
        refine (implShift_c aZ qZ cZ xz by_ _ LNZ.out (by omega) OZ.out.rd'.2 (by omega) zh fh ph HFh.out HPph.out).mono ?_
        rintro e y28 ⟨aH, cH, rfl, ho, hbb⟩
        obtain ⟨z29, hz29⟩ : ∃ x, (y28.alloc (Obj.cells #[Value.slice aH ph cH] 25)) = x := ⟨_, rfl⟩
        have hnz29 : Below y28.heap.size y28 z29 := by rw [← hz29]; exact balloc _ _
        have hbz29 : Below z27.heap.size z27 z29 := hbb.trans (hnz29.mono hbb.size)
        have hszz29 : w.heap.size ≤ y28.heap.size := Nat.le_trans HB.out.size hbb.size
        have hsO : w.heap.size ≤ z27.heap.size := HB.out.size
        replace kZ : z29.cell? ⟨y26.heap.size, 0, none⟩ = some (.slice aZ qZ cZ) := keepC hbz29 kZ
        replace OZ : Hid (Own z29 w.heap.size (.slice aZ qZ cZ) xz) := OZ.out.later hbz29
        replace HB : Hid (Below w.heap.size w z29) := HB.out.trans (hbz29.mono HB.out.size)
        have kH : z29.cell? ⟨y28.heap.size, 0, none⟩ = some (.slice aH ph cH) := by rw [← hz29]; exact cnew _ _ _
        have OH : Hid (Own z29 w.heap.size (.slice aH ph cH) zh) := (ho.mono hsO).later hnz29
        clear hnz29 hbz29 hsO
        clear ho hbb
        go_wp2_with fail
        clear hz29
        refine (specShift_c aZ qZ cZ xz by_ _ LNZ.out (by omega) OZ.out.rdS (by omega) zh fh ph HFh.out HPph.out).mono ?_
        rintro e y30 ⟨aSH, cSH, rfl, ho, hbb⟩
        obtain ⟨z31, hz31⟩ : ∃ x, (y30.alloc (Obj.cells #[Value.slice aSH ph cSH] 25)) = x := ⟨_, rfl⟩
        have hnz31 : Below y30.heap.size y30 z31 := by rw [← hz31]; exact balloc _ _
        have hbz31 : Below z29.heap.size z29 z31 := hbb.trans (hnz31.mono hbb.size)
        have hszz31 : w.heap.size ≤ y30.heap.size := Nat.le_trans HB.out.size hbb.size
        have hsO : w.heap.size ≤ z29.heap.size := HB.out.size
        replace kZ : z31.cell? ⟨y26.heap.size, 0, none⟩ = some (.slice aZ qZ cZ) := keepC hbz31 kZ
        replace OZ : Hid (Own z31 w.heap.size (.slice aZ qZ cZ) xz) := OZ.out.later hbz31
        replace kH : z31.cell? ⟨y28.heap.size, 0, none⟩ = some (.slice aH ph cH) := keepC hbz31 kH
        replace OH : Hid (Own z31 w.heap.size (.slice aH ph cH) zh) := OH.out.later hbz31
        replace HB : Hid (Below w.heap.size w z31) := HB.out.trans (hbz31.mono HB.out.size)
        have kSH : z31.cell? ⟨y30.heap.size, 0, none⟩ = some (.slice aSH ph cSH) := by rw [← hz31]; exact cnew _ _ _
        have OSH : Hid (Own z31 w.heap.size (.slice aSH ph cSH) zh) := (ho.mono hsO).later hnz31
        clear hnz31 hbz31 hsO
        clear ho hbb
        go_wp2_with fail
        clear hz31
        refine (drawBigOf_c bo m d _ hm (HM.out.later HB.out HB.out.size)).mono ?_
        rintro e y32 ⟨nn, rfl, hnn, hbb⟩
        replace kZ : y32.cell? ⟨y26.heap.size, 0, none⟩ = some (.slice aZ qZ cZ) := keepC hbb kZ
        replace OZ : Hid (Own y32 w.heap.size (.slice aZ qZ cZ) xz) := OZ.out.later hbb
        replace kH : y32.cell? ⟨y28.heap.size, 0, none⟩ = some (.slice aH ph cH) := keepC hbb kH
        replace OH : Hid (Own y32 w.heap.size (.slice aH ph cH) zh) := OH.out.later hbb
        replace kSH : y32.cell? ⟨y30.heap.size, 0, none⟩ = some (.slice aSH ph cSH) := keepC hbb kSH
        replace OSH : Hid (Own y32 w.heap.size (.slice aSH ph cSH) zh) := OSH.out.later hbb
        replace HB : Hid (Below w.heap.size w y32) := HB.out.trans (hbb.mono HB.out.size)
        clear hbb
        obtain ⟨zo, fo, hF⟩ : ∃ z b, ofF nn = (z, b) := ⟨_, _, rfl⟩
        have HFo : Hid (ofF nn = (zo, fo)) := hF
        obtain ⟨po, hp⟩ : ∃ p, zo.length = p := ⟨_, rfl⟩
        have HPpo : Hid (zo.length = po) := hp
        have hp6o : po ≤ 6 := by rw [← hp]; exact ofF_short hF
        clear hF hp
        have e6 : (fh != fh) = false := by simp
        have e7 : (fo != fo) = false := by simp
        go_wp2_with fail
        refine (implOf_c nn _ (by omega) zo fo po HFo.out HPpo.out).mono ?_
        rintro e y33 ⟨aO1, cO1, rfl, ho, hbb⟩
        obtain ⟨z34, hz34⟩ : ∃ x, (y33.alloc (Obj.cells #[Value.slice aO1 po cO1] 25)) = x := ⟨_, rfl⟩
        have hnz34 : Below y33.heap.size y33 z34 := by rw [← hz34]; exact balloc _ _
        have hbz34 : Below y32.heap.size y32 z34 := hbb.trans (hnz34.mono hbb.size)
        have hszz34 : w.heap.size ≤ y33.heap.size := Nat.le_trans HB.out.size hbb.size
        have hsO : w.heap.size ≤ y32.heap.size := HB.out.size
        replace kZ : z34.cell? ⟨y26.heap.size, 0, none⟩ = some (.slice aZ qZ cZ) := keepC hbz34 kZ
        replace OZ : Hid (Own z34 w.heap.size (.slice aZ qZ cZ) xz) := OZ.out.later hbz34
        replace kH : z34.cell? ⟨y28.heap.size, 0, none⟩ = some (.slice aH ph cH) := keepC hbz34 kH
        replace OH : Hid (Own z34 w.heap.size (.slice aH ph cH) zh) := OH.out.later hbz34
        replace kSH : z34.cell? ⟨y30.heap.size, 0, none⟩ = some (.slice aSH ph cSH) := keepC hbz34 kSH
        replace OSH : Hid (Own z34 w.heap.size (.slice aSH ph cSH) zh) := OSH.out.later hbz34
        replace HB : Hid (Below w.heap.size w z34) := HB.out.trans (hbz34.mono HB.out.size)
        have kO1 : z34.cell? ⟨y33.heap.size, 0, none⟩ = some (.slice aO1 po cO1) := by rw [← hz34]; exact cnew _ _ _
        have OO1 : Hid (Own z34 w.heap.size (.slice aO1 po cO1) zo) := (ho.mono hsO).later hnz34
        clear hnz34 hbz34 hsO
        clear ho hbb
        go_wp2_with fail
        clear hz34
        refine (specOf_c nn _ (by omega) zo fo po HFo.out HPpo.out).mono ?_
        rintro e y35 ⟨aO2, cO2, rfl, ho, hbb⟩
        obtain ⟨z36, hz36⟩ : ∃ x, (y35.alloc (Obj.cells #[Value.slice aO2 po cO2] 25)) = x := ⟨_, rfl⟩
        have hnz36 : Below y35.heap.size y35 z36 := by rw [← hz36]; exact balloc _ _
        have hbz36 : Below z34.heap.size z34 z36 := hbb.trans (hnz36.mono hbb.size)
        have hszz36 : w.heap.size ≤ y35.heap.size := Nat.le_trans HB.out.size hbb.size
        have hsO : w.heap.size ≤ z34.heap.size := HB.out.size
        replace kZ : z36.cell? ⟨y26.heap.size, 0, none⟩ = some (.slice aZ qZ cZ) := keepC hbz36 kZ
        replace OZ : Hid (Own z36 w.heap.size (.slice aZ qZ cZ) xz) := OZ.out.later hbz36
        replace kH : z36.cell? ⟨y28.heap.size, 0, none⟩ = some (.slice aH ph cH) := keepC hbz36 kH
        replace OH : Hid (Own z36 w.heap.size (.slice aH ph cH) zh) := OH.out.later hbz36
        replace kSH : z36.cell? ⟨y30.heap.size, 0, none⟩ = some (.slice aSH ph cSH) := keepC hbz36 kSH
        replace OSH : Hid (Own z36 w.heap.size (.slice aSH ph cSH) zh) := OSH.out.later hbz36
        replace kO1 : z36.cell? ⟨y33.heap.size, 0, none⟩ = some (.slice aO1 po cO1) := keepC hbz36 kO1
        replace OO1 : Hid (Own z36 w.heap.size (.slice aO1 po cO1) zo) := OO1.out.later hbz36
        replace HB : Hid (Below w.heap.size w z36) := HB.out.trans (hbz36.mono HB.out.size)
        have kO2 : z36.cell? ⟨y35.heap.size, 0, none⟩ = some (.slice aO2 po cO2) := by rw [← hz36]; exact cnew _ _ _
        have OO2 : Hid (Own z36 w.heap.size (.slice aO2 po cO2) zo) := (ho.mono hsO).later hnz36
        clear hnz36 hbz36 hsO
        clear ho hbb
        go_wp2_with fail
        clear hz36
        refine (sameBig_t _ HPph.out (by omega) OH.out.rd'.2 OSH.out.rd'.2).mono ?_
        rintro e y37 ⟨rfl, hbb⟩
        replace kZ : y37.cell? ⟨y26.heap.size, 0, none⟩ = some (.slice aZ qZ cZ) := keepC hbb kZ
        replace OZ : Hid (Own y37 w.heap.size (.slice aZ qZ cZ) xz) := OZ.out.later hbb
        replace kH : y37.cell? ⟨y28.heap.size, 0, none⟩ = some (.slice aH ph cH) := keepC hbb kH
        replace OH : Hid (Own y37 w.heap.size (.slice aH ph cH) zh) := OH.out.later hbb
        replace kSH : y37.cell? ⟨y30.heap.size, 0, none⟩ = some (.slice aSH ph cSH) := keepC hbb kSH
        replace OSH : Hid (Own y37 w.heap.size (.slice aSH ph cSH) zh) := OSH.out.later hbb
        replace kO1 : y37.cell? ⟨y33.heap.size, 0, none⟩ = some (.slice aO1 po cO1) := keepC hbb kO1
        replace OO1 : Hid (Own y37 w.heap.size (.slice aO1 po cO1) zo) := OO1.out.later hbb
        replace kO2 : y37.cell? ⟨y35.heap.size, 0, none⟩ = some (.slice aO2 po cO2) := keepC hbb kO2
        replace OO2 : Hid (Own y37 w.heap.size (.slice aO2 po cO2) zo) := OO2.out.later hbb
        replace HB : Hid (Below w.heap.size w y37) := HB.out.trans (hbb.mono HB.out.size)
        clear hbb
        clear kSH OSH
        go_wp2_with fail
        refine (sameBig_t _ HPpo.out (by omega) OO1.out.rd'.2 OO2.out.rd'.2).mono ?_
        rintro e y38 ⟨rfl, hbb⟩
        replace kZ : y38.cell? ⟨y26.heap.size, 0, none⟩ = some (.slice aZ qZ cZ) := keepC hbb kZ
        replace OZ : Hid (Own y38 w.heap.size (.slice aZ qZ cZ) xz) := OZ.out.later hbb
        replace kH : y38.cell? ⟨y28.heap.size, 0, none⟩ = some (.slice aH ph cH) := keepC hbb kH
        replace OH : Hid (Own y38 w.heap.size (.slice aH ph cH) zh) := OH.out.later hbb
        replace kO1 : y38.cell? ⟨y33.heap.size, 0, none⟩ = some (.slice aO1 po cO1) := keepC hbb kO1
        replace OO1 : Hid (Own y38 w.heap.size (.slice aO1 po cO1) zo) := OO1.out.later hbb
        replace kO2 : y38.cell? ⟨y35.heap.size, 0, none⟩ = some (.slice aO2 po cO2) := keepC hbb kO2
        replace OO2 : Hid (Own y38 w.heap.size (.slice aO2 po cO2) zo) := OO2.out.later hbb
        replace HB : Hid (Below w.heap.size w y38) := HB.out.trans (hbb.mono HB.out.size)
        clear hbb
        clear kO1 OO1
        clear kO2 OO2
        cases fh with
        | false =>
          go_wp2
          go_ret
          exact ⟨rfl, HB.out⟩
        | true =>
          by_cases hb0 : 0 ≤ by_
          · have HS : Hid (shiftF zh (-by_) = (xz, true)) := shift_back HFh.out hb0
            go_wp2_with fail
            refine (implShift_c aH ph cH zh (-by_) _ HPph.out (by omega) OH.out.rd'.2 (by omega) xz true qZ HS.out LNZ.out).mono ?_
            rintro e y39 ⟨aBK, cBK, rfl, ho, hbb⟩
            obtain ⟨z40, hz40⟩ : ∃ x, (y39.alloc (Obj.cells #[Value.slice aBK qZ cBK] 25)) = x := ⟨_, rfl⟩
            have hnz40 : Below y39.heap.size y39 z40 := by rw [← hz40]; exact balloc _ _
            have hbz40 : Below y38.heap.size y38 z40 := hbb.trans (hnz40.mono hbb.size)
            have hszz40 : w.heap.size ≤ y39.heap.size := Nat.le_trans HB.out.size hbb.size
            have hsO : w.heap.size ≤ y38.heap.size := HB.out.size
            replace kZ : z40.cell? ⟨y26.heap.size, 0, none⟩ = some (.slice aZ qZ cZ) := keepC hbz40 kZ
            replace OZ : Hid (Own z40 w.heap.size (.slice aZ qZ cZ) xz) := OZ.out.later hbz40
            replace kH : z40.cell? ⟨y28.heap.size, 0, none⟩ = some (.slice aH ph cH) := keepC hbz40 kH
            replace OH : Hid (Own z40 w.heap.size (.slice aH ph cH) zh) := OH.out.later hbz40
            replace HB : Hid (Below w.heap.size w z40) := HB.out.trans (hbz40.mono HB.out.size)
            have kBK : z40.cell? ⟨y39.heap.size, 0, none⟩ = some (.slice aBK qZ cBK) := by rw [← hz40]; exact cnew _ _ _
            have OBK : Hid (Own z40 w.heap.size (.slice aBK qZ cBK) xz) := (ho.mono hsO).later hnz40
            clear hnz40 hbz40 hsO
            clear ho hbb
            go_wp2_with fail
            clear hz40
            refine (sameBig_t _ LNZ.out (by omega) OBK.out.rd'.2 OZ.out.rd'.2).mono ?_
            rintro e y41 ⟨rfl, hbb⟩
            replace kZ : y41.cell? ⟨y26.heap.size, 0, none⟩ = some (.slice aZ qZ cZ) := keepC hbb kZ
            replace OZ : Hid (Own y41 w.heap.size (.slice aZ qZ cZ) xz) := OZ.out.later hbb
            replace kH : y41.cell? ⟨y28.heap.size, 0, none⟩ = some (.slice aH ph cH) := keepC hbb kH
            replace OH : Hid (Own y41 w.heap.size (.slice aH ph cH) zh) := OH.out.later hbb
            replace kBK : y41.cell? ⟨y39.heap.size, 0, none⟩ = some (.slice aBK qZ cBK) := keepC hbb kBK
            replace OBK : Hid (Own y41 w.heap.size (.slice aBK qZ cBK) xz) := OBK.out.later hbb
            replace HB : Hid (Below w.heap.size w y41) := HB.out.trans (hbb.mono HB.out.size)
            clear hbb
            go_wp2
            go_ret
            exact ⟨rfl, HB.out⟩
          · go_wp2
            go_ret
            exact ⟨rfl, HB.out⟩
      | true =>
        have HBk : Hid (digF (byts St) = (xx, true)) := digits_back HFt.out
        clear HFt
        go_wp2_with fail
        refine (implDec_c St _ (by omega) xx true qX HBk.out LNX.out).mono ?_
        rintro e y42 ⟨aBA, cBA, rfl, ho, hbb⟩
        obtain ⟨z43, hz43⟩ : ∃ x, (y42.alloc (Obj.cells #[Value.slice aBA qX cBA] 25)) = x := ⟨_, rfl⟩
        have hnz43 : Below y42.heap.size y42 z43 := by rw [← hz43]; exact balloc _ _
        have hbz43 : Below y25.heap.size y25 z43 := hbb.trans (hnz43.mono hbb.size)
        have hszz43 : w.heap.size ≤ y42.heap.size := Nat.le_trans HB.out.size hbb.size
        have hsO : w.heap.size ≤ y25.heap.size := HB.out.size
        replace kX : z43.cell? ⟨y16.heap.size, 0, none⟩ = some (.slice aX qX cX) := keepC hbz43 kX
        replace OX : Hid (Own z43 w.heap.size (.slice aX qX cX) xx) := OX.out.later hbz43
        replace HB : Hid (Below w.heap.size w z43) := HB.out.trans (hbz43.mono HB.out.size)
        have kBA : z43.cell? ⟨y42.heap.size, 0, none⟩ = some (.slice aBA qX cBA) := by rw [← hz43]; exact cnew _ _ _
        have OBA : Hid (Own z43 w.heap.size (.slice aBA qX cBA) xx) := (ho.mono hsO).later hnz43
        clear hnz43 hbz43 hsO
        clear ho hbb
        go_wp2_with fail
        clear hz43
        refine (sameBig_t _ LNX.out (by omega) OBA.out.rd'.2 OX.out.rd'.2).mono ?_
        rintro e y44 ⟨rfl, hbb⟩
        replace kX : y44.cell? ⟨y16.heap.size, 0, none⟩ = some (.slice aX qX cX) := keepC hbb kX
        replace OX : Hid (Own y44 w.heap.size (.slice aX qX cX) xx) := OX.out.later hbb
        replace kBA : y44.cell? ⟨y42.heap.size, 0, none⟩ = some (.slice aBA qX cBA) := keepC hbb kBA
        replace OBA : Hid (Own y44 w.heap.size (.slice aBA qX cBA) xx) := OBA.out.later hbb
        replace HB : Hid (Below w.heap.size w y44) := HB.out.trans (hbb.mono HB.out.size)
        clear hbb
        clear kBA OBA
        clear kX OX
        go_wp2_with fail
        refine (drawShift_c bo m d _ hm (HM.out.later HB.out HB.out.size)).mono ?_
        rintro e y45 ⟨aZ, qZ, cZ, xz, by_, rfl, hqZ, hlZ, hby, ho, hbb⟩
        have LNZ : Hid (xz.length = qZ) := hlZ
        obtain ⟨z46, hz46⟩ : ∃ x, (y45.alloc (Obj.cells #[Value.slice aZ qZ cZ] 25)) = x := ⟨_, rfl⟩
        have hnz46 : Below y45.heap.size y45 z46 := by rw [← hz46]; exact balloc _ _
        have hbz46 : Below y44.heap.size y44 z46 := hbb.trans (hnz46.mono hbb.size)
        have hszz46 : w.heap.size ≤ y45.heap.size := Nat.le_trans HB.out.size hbb.size
        have hsO : w.heap.size ≤ y44.heap.size := HB.out.size
        replace HB : Hid (Below w.heap.size w z46) := HB.out.trans (hbz46.mono HB.out.size)
        have kZ : z46.cell? ⟨y45.heap.size, 0, none⟩ = some (.slice aZ qZ cZ) := by rw [← hz46]; exact cnew _ _ _
        have OZ : Hid (Own z46 w.heap.size (.slice aZ qZ cZ) xz) := (ho.mono hsO).later hnz46
        clear hnz46 hbz46 hsO
        clear ho hbb hlZ
        obtain ⟨zh, fh, hF⟩ : ∃ z b, shiftF xz by_ = (z, b) := ⟨_, _, rfl⟩
        have HFh : Hid (shiftF xz by_ = (zh, fh)) := hF
        obtain ⟨ph, hp⟩ : ∃ p, zh.length = p := ⟨_, rfl⟩
        have HPph : Hid (zh.length = ph) := hp
        have hp6h : ph ≤ 6 := by rw [← hp]; exact shiftF_less hF
        clear hF hp
        go_wp2_with fail
        clear hz46
        refine (implShift_c aZ qZ cZ xz by_ _ LNZ.out (by omega) OZ.out.rd'.2 (by omega) zh fh ph HFh.out HPph.out).mono ?_
        rintro e y47 ⟨aH, cH, rfl, ho, hbb⟩
        obtain ⟨z48, hz48⟩ : ∃ x, (y47.alloc (Obj.cells #[Value.slice aH ph cH] 25)) = x := ⟨_, rfl⟩
        have hnz48 : Below y47.heap.size y47 z48 := by rw [← hz48]; exact balloc _ _
        have hbz48 : Below z46.heap.size z46 z48 := hbb.trans (hnz48.mono hbb.size)
        have hszz48 : w.heap.size ≤ y47.heap.size := Nat.le_trans HB.out.size hbb.size
        have hsO : w.heap.size ≤ z46.heap.size := HB.out.size
        replace kZ : z48.cell? ⟨y45.heap.size, 0, none⟩ = some (.slice aZ qZ cZ) := keepC hbz48 kZ
        replace OZ : Hid (Own z48 w.heap.size (.slice aZ qZ cZ) xz) := OZ.out.later hbz48
        replace HB : Hid (Below w.heap.size w z48) := HB.out.trans (hbz48.mono HB.out.size)
        have kH : z48.cell? ⟨y47.heap.size, 0, none⟩ = some (.slice aH ph cH) := by rw [← hz48]; exact cnew _ _ _
        have OH : Hid (Own z48 w.heap.size (.slice aH ph cH) zh) := (ho.mono hsO).later hnz48
        clear hnz48 hbz48 hsO
        clear ho hbb
        go_wp2_with fail
        clear hz48
        refine (specShift_c aZ qZ cZ xz by_ _ LNZ.out (by omega) OZ.out.rdS (by omega) zh fh ph HFh.out HPph.out).mono ?_
        rintro e y49 ⟨aSH, cSH, rfl, ho, hbb⟩
        obtain ⟨z50, hz50⟩ : ∃ x, (y49.alloc (Obj.cells #[Value.slice aSH ph cSH] 25)) = x := ⟨_, rfl⟩
        have hnz50 : Below y49.heap.size y49 z50 := by rw [← hz50]; exact balloc _ _
        have hbz50 : Below z48.heap.size z48 z50 := hbb.trans (hnz50.mono hbb.size)
        have hszz50 : w.heap.size ≤ y49.heap.size := Nat.le_trans HB.out.size hbb.size
        have hsO : w.heap.size ≤ z48.heap.size := HB.out.size
        replace kZ : z50.cell? ⟨y45.heap.size, 0, none⟩ = some (.slice aZ qZ cZ) := keepC hbz50 kZ
        replace OZ : Hid (Own z50 w.heap.size (.slice aZ qZ cZ) xz) := OZ.out.later hbz50
        replace kH : z50.cell? ⟨y47.heap.size, 0, none⟩ = some (.slice aH ph cH) := keepC hbz50 kH
        replace OH : Hid (Own z50 w.heap.size (.slice aH ph cH) zh) := OH.out.later hbz50
        replace HB : Hid (Below w.heap.size w z50) := HB.out.trans (hbz50.mono HB.out.size)
        have kSH : z50.cell? ⟨y49.heap.size, 0, none⟩ = some (.slice aSH ph cSH) := by rw [← hz50]; exact cnew _ _ _
        have OSH : Hid (Own z50 w.heap.size (.slice aSH ph cSH) zh) := (ho.mono hsO).later hnz50
        clear hnz50 hbz50 hsO
        clear ho hbb
        go_wp2_with fail
        clear hz50
        refine (drawBigOf_c bo m d _ hm (HM.out.later HB.out HB.out.size)).mono ?_
        rintro e y51 ⟨nn, rfl, hnn, hbb⟩
        replace kZ : y51.cell? ⟨y45.heap.size, 0, none⟩ = some (.slice aZ qZ cZ) := keepC hbb kZ
        replace OZ : Hid (Own y51 w.heap.size (.slice aZ qZ cZ) xz) := OZ.out.later hbb
        replace kH : y51.cell? ⟨y47.heap.size, 0, none⟩ = some (.slice aH ph cH) := keepC hbb kH
        replace OH : Hid (Own y51 w.heap.size (.slice aH ph cH) zh) := OH.out.later hbb
        replace kSH : y51.cell? ⟨y49.heap.size, 0, none⟩ = some (.slice aSH ph cSH) := keepC hbb kSH
        replace OSH : Hid (Own y51 w.heap.size (.slice aSH ph cSH) zh) := OSH.out.later hbb
        replace HB : Hid (Below w.heap.size w y51) := HB.out.trans (hbb.mono HB.out.size)
        clear hbb
        obtain ⟨zo, fo, hF⟩ : ∃ z b, ofF nn = (z, b) := ⟨_, _, rfl⟩
        have HFo : Hid (ofF nn = (zo, fo)) := hF
        obtain ⟨po, hp⟩ : ∃ p, zo.length = p := ⟨_, rfl⟩
        have HPpo : Hid (zo.length = po) := hp
        have hp6o : po ≤ 6 := by rw [← hp]; exact ofF_short hF
        clear hF hp
        have e6 : (fh != fh) = false := by simp
        have e7 : (fo != fo) = false := by simp
        go_wp2_with fail
        refine (implOf_c nn _ (by omega) zo fo po HFo.out HPpo.out).mono ?_
        rintro e y52 ⟨aO1, cO1, rfl, ho, hbb⟩
        obtain ⟨z53, hz53⟩ : ∃ x, (y52.alloc (Obj.cells #[Value.slice aO1 po cO1] 25)) = x := ⟨_, rfl⟩
        have hnz53 : Below y52.heap.size y52 z53 := by rw [← hz53]; exact balloc _ _
        have hbz53 : Below y51.heap.size y51 z53 := hbb.trans (hnz53.mono hbb.size)
        have hszz53 : w.heap.size ≤ y52.heap.size := Nat.le_trans HB.out.size hbb.size
        have hsO : w.heap.size ≤ y51.heap.size := HB.out.size
        replace kZ : z53.cell? ⟨y45.heap.size, 0, none⟩ = some (.slice aZ qZ cZ) := keepC hbz53 kZ
        replace OZ : Hid (Own z53 w.heap.size (.slice aZ qZ cZ) xz) := OZ.out.later hbz53
        replace kH : z53.cell? ⟨y47.heap.size, 0, none⟩ = some (.slice aH ph cH) := keepC hbz53 kH
        replace OH : Hid (Own z53 w.heap.size (.slice aH ph cH) zh) := OH.out.later hbz53
        replace kSH : z53.cell? ⟨y49.heap.size, 0, none⟩ = some (.slice aSH ph cSH) := keepC hbz53 kSH
        replace OSH : Hid (Own z53 w.heap.size (.slice aSH ph cSH) zh) := OSH.out.later hbz53
        replace HB : Hid (Below w.heap.size w z53) := HB.out.trans (hbz53.mono HB.out.size)
        have kO1 : z53.cell? ⟨y52.heap.size, 0, none⟩ = some (.slice aO1 po cO1) := by rw [← hz53]; exact cnew _ _ _
        have OO1 : Hid (Own z53 w.heap.size (.slice aO1 po cO1) zo) := (ho.mono hsO).later hnz53
        clear hnz53 hbz53 hsO
        clear ho hbb
        go_wp2_with fail
        clear hz53
        refine (specOf_c nn _ (by omega) zo fo po HFo.out HPpo.out).mono ?_
        rintro e y54 ⟨aO2, cO2, rfl, ho, hbb⟩
        obtain ⟨z55, hz55⟩ : ∃ x, (y54.alloc (Obj.cells #[Value.slice aO2 po cO2] 25)) = x := ⟨_, rfl⟩
        have hnz55 : Below y54.heap.size y54 z55 := by rw [← hz55]; exact balloc _ _
        have hbz55 : Below z53.heap.size z53 z55 := hbb.trans (hnz55.mono hbb.size)
        have hszz55 : w.heap.size ≤ y54.heap.size := Nat.le_trans HB.out.size hbb.size
        have hsO : w.heap.size ≤ z53.heap.size := HB.out.size
        replace kZ : z55.cell? ⟨y45.heap.size, 0, none⟩ = some (.slice aZ qZ cZ) := keepC hbz55 kZ
        replace OZ : Hid (Own z55 w.heap.size (.slice aZ qZ cZ) xz) := OZ.out.later hbz55
        replace kH : z55.cell? ⟨y47.heap.size, 0, none⟩ = some (.slice aH ph cH) := keepC hbz55 kH
        replace OH : Hid (Own z55 w.heap.size (.slice aH ph cH) zh) := OH.out.later hbz55
        replace kSH : z55.cell? ⟨y49.heap.size, 0, none⟩ = some (.slice aSH ph cSH) := keepC hbz55 kSH
        replace OSH : Hid (Own z55 w.heap.size (.slice aSH ph cSH) zh) := OSH.out.later hbz55
        replace kO1 : z55.cell? ⟨y52.heap.size, 0, none⟩ = some (.slice aO1 po cO1) := keepC hbz55 kO1
        replace OO1 : Hid (Own z55 w.heap.size (.slice aO1 po cO1) zo) := OO1.out.later hbz55
        replace HB : Hid (Below w.heap.size w z55) := HB.out.trans (hbz55.mono HB.out.size)
        have kO2 : z55.cell? ⟨y54.heap.size, 0, none⟩ = some (.slice aO2 po cO2) := by rw [← hz55]; exact cnew _ _ _
        have OO2 : Hid (Own z55 w.heap.size (.slice aO2 po cO2) zo) := (ho.mono hsO).later hnz55
        clear hnz55 hbz55 hsO
        clear ho hbb
        go_wp2_with fail
        clear hz55
        refine (sameBig_t _ HPph.out (by omega) OH.out.rd'.2 OSH.out.rd'.2).mono ?_
        rintro e y56 ⟨rfl, hbb⟩
        replace kZ : y56.cell? ⟨y45.heap.size, 0, none⟩ = some (.slice aZ qZ cZ) := keepC hbb kZ
        replace OZ : Hid (Own y56 w.heap.size (.slice aZ qZ cZ) xz) := OZ.out.later hbb
        replace kH : y56.cell? ⟨y47.heap.size, 0, none⟩ = some (.slice aH ph cH) := keepC hbb kH
        replace OH : Hid (Own y56 w.heap.size (.slice aH ph cH) zh) := OH.out.later hbb
        replace kSH : y56.cell? ⟨y49.heap.size, 0, none⟩ = some (.slice aSH ph cSH) := keepC hbb kSH
        replace OSH : Hid (Own y56 w.heap.size (.slice aSH ph cSH) zh) := OSH.out.later hbb
        replace kO1 : y56.cell? ⟨y52.heap.size, 0, none⟩ = some (.slice aO1 po cO1) := keepC hbb kO1
        replace OO1 : Hid (Own y56 w.heap.size (.slice aO1 po cO1) zo) := OO1.out.later hbb
        replace kO2 : y56.cell? ⟨y54.heap.size, 0, none⟩ = some (.slice aO2 po cO2) := keepC hbb kO2
        replace OO2 : Hid (Own y56 w.heap.size (.slice aO2 po cO2) zo) := OO2.out.later hbb
        replace HB : Hid (Below w.heap.size w y56) := HB.out.trans (hbb.mono HB.out.size)
        clear hbb
        clear kSH OSH
        go_wp2_with fail
        refine (sameBig_t _ HPpo.out (by omega) OO1.out.rd'.2 OO2.out.rd'.2).mono ?_
        rintro e y57 ⟨rfl, hbb⟩
        replace kZ : y57.cell? ⟨y45.heap.size, 0, none⟩ = some (.slice aZ qZ cZ) := keepC hbb kZ
        replace OZ : Hid (Own y57 w.heap.size (.slice aZ qZ cZ) xz) := OZ.out.later hbb
        replace kH : y57.cell? ⟨y47.heap.size, 0, none⟩ = some (.slice aH ph cH) := keepC hbb kH
        replace OH : Hid (Own y57 w.heap.size (.slice aH ph cH) zh) := OH.out.later hbb
        replace kO1 : y57.cell? ⟨y52.heap.size, 0, none⟩ = some (.slice aO1 po cO1) := keepC hbb kO1
        replace OO1 : Hid (Own y57 w.heap.size (.slice aO1 po cO1) zo) := OO1.out.later hbb
        replace kO2 : y57.cell? ⟨y54.heap.size, 0, none⟩ = some (.slice aO2 po cO2) := keepC hbb kO2
        replace OO2 : Hid (Own y57 w.heap.size (.slice aO2 po cO2) zo) := OO2.out.later hbb
        replace HB : Hid (Below w.heap.size w y57) := HB.out.trans (hbb.mono HB.out.size)
        clear hbb
        clear kO1 OO1
        clear kO2 OO2
        cases fh with
        | false =>
          go_wp2
          go_ret
          exact ⟨rfl, HB.out⟩
        | true =>
          by_cases hb0 : 0 ≤ by_
          · have HS : Hid (shiftF zh (-by_) = (xz, true)) := shift_back HFh.out hb0
            go_wp2_with fail
            refine (implShift_c aH ph cH zh (-by_) _ HPph.out (by omega) OH.out.rd'.2 (by omega) xz true qZ HS.out LNZ.out).mono ?_
            rintro e y58 ⟨aBK, cBK, rfl, ho, hbb⟩
            obtain ⟨z59, hz59⟩ : ∃ x, (y58.alloc (Obj.cells #[Value.slice aBK qZ cBK] 25)) = x := ⟨_, rfl⟩
            have hnz59 : Below y58.heap.size y58 z59 := by rw [← hz59]; exact balloc _ _
            have hbz59 : Below y57.heap.size y57 z59 := hbb.trans (hnz59.mono hbb.size)
            have hszz59 : w.heap.size ≤ y58.heap.size := Nat.le_trans HB.out.size hbb.size
            have hsO : w.heap.size ≤ y57.heap.size := HB.out.size
            replace kZ : z59.cell? ⟨y45.heap.size, 0, none⟩ = some (.slice aZ qZ cZ) := keepC hbz59 kZ
            replace OZ : Hid (Own z59 w.heap.size (.slice aZ qZ cZ) xz) := OZ.out.later hbz59
            replace kH : z59.cell? ⟨y47.heap.size, 0, none⟩ = some (.slice aH ph cH) := keepC hbz59 kH
            replace OH : Hid (Own z59 w.heap.size (.slice aH ph cH) zh) := OH.out.later hbz59
            replace HB : Hid (Below w.heap.size w z59) := HB.out.trans (hbz59.mono HB.out.size)
            have kBK : z59.cell? ⟨y58.heap.size, 0, none⟩ = some (.slice aBK qZ cBK) := by rw [← hz59]; exact cnew _ _ _
            have OBK : Hid (Own z59 w.heap.size (.slice aBK qZ cBK) xz) := (ho.mono hsO).later hnz59
            clear hnz59 hbz59 hsO
            clear ho hbb
            go_wp2_with fail
            clear hz59
            refine (sameBig_t _ LNZ.out (by omega) OBK.out.rd'.2 OZ.out.rd'.2).mono ?_
            rintro e y60 ⟨rfl, hbb⟩
            replace kZ : y60.cell? ⟨y45.heap.size, 0, none⟩ = some (.slice aZ qZ cZ) := keepC hbb kZ
            replace OZ : Hid (Own y60 w.heap.size (.slice aZ qZ cZ) xz) := OZ.out.later hbb
            replace kH : y60.cell? ⟨y47.heap.size, 0, none⟩ = some (.slice aH ph cH) := keepC hbb kH
            replace OH : Hid (Own y60 w.heap.size (.slice aH ph cH) zh) := OH.out.later hbb
            replace kBK : y60.cell? ⟨y58.heap.size, 0, none⟩ = some (.slice aBK qZ cBK) := keepC hbb kBK
            replace OBK : Hid (Own y60 w.heap.size (.slice aBK qZ cBK) xz) := OBK.out.later hbb
            replace HB : Hid (Below w.heap.size w y60) := HB.out.trans (hbb.mono HB.out.size)
            clear hbb
            go_wp2
            go_ret
            exact ⟨rfl, HB.out⟩
          · go_wp2
            go_ret
            exact ⟨rfl, HB.out⟩
    | true =>
      obtain ⟨zp, t1, t2, t3⟩ := div_back HFd.out
      have T1 : Hid (timesF zq xb = (zp, true)) := t1
      have T2 : Hid (addF zp zr = (xa, true)) := t2
      have T3 : Hid (cmpF zr xb = (-1, true)) := t3
      have hzp := timesF_short t1
      obtain ⟨pp, hp⟩ : ∃ p, zp.length = p := ⟨_, rfl⟩
      have HPpp : Hid (zp.length = pp) := hp
      rw [hp] at hzp
      clear hp t1 t2 t3 HFd
      go_wp2_with fail
      refine (implTimes_c aQ aB pq qB cQ cB zq xb _ HPpq.out LNB.out (by omega) (by omega) OQ.out.rd'.2 OB.out.rd'.2 zp true pp T1.out HPpp.out).mono ?_
      rintro e y61 ⟨aP, cP, rfl, ho, hbb⟩
      obtain ⟨z62, hz62⟩ : ∃ x, (y61.alloc (Obj.cells #[Value.slice aP pp cP] 25)) = x := ⟨_, rfl⟩
      have hnz62 : Below y61.heap.size y61 z62 := by rw [← hz62]; exact balloc _ _
      have hbz62 : Below y15.heap.size y15 z62 := hbb.trans (hnz62.mono hbb.size)
      have hszz62 : w.heap.size ≤ y61.heap.size := Nat.le_trans HB.out.size hbb.size
      have hsO : w.heap.size ≤ y15.heap.size := HB.out.size
      replace kA : z62.cell? ⟨y1.heap.size, 0, none⟩ = some (.slice aA qA cA) := keepC hbz62 kA
      replace OA : Hid (Own z62 w.heap.size (.slice aA qA cA) xa) := OA.out.later hbz62
      replace kB : z62.cell? ⟨y1.heap.size + 1, 0, none⟩ = some (.slice aB qB cB) := keepC hbz62 kB
      replace OB : Hid (Own z62 w.heap.size (.slice aB qB cB) xb) := OB.out.later hbz62
      replace kQ : z62.cell? ⟨y7.heap.size, 0, none⟩ = some (.slice aQ pq cQ) := keepC hbz62 kQ
      replace OQ : Hid (Own z62 w.heap.size (.slice aQ pq cQ) zq) := OQ.out.later hbz62
      replace kR : z62.cell? ⟨y7.heap.size + 1, 0, none⟩ = some (.slice aR pr cR) := keepC hbz62 kR
      replace OR : Hid (Own z62 w.heap.size (.slice aR pr cR) zr) := OR.out.later hbz62
      replace HB : Hid (Below w.heap.size w z62) := HB.out.trans (hbz62.mono HB.out.size)
      have kP : z62.cell? ⟨y61.heap.size, 0, none⟩ = some (.slice aP pp cP) := by rw [← hz62]; exact cnew _ _ _
      have OP : Hid (Own z62 w.heap.size (.slice aP pp cP) zp) := (ho.mono hsO).later hnz62
      clear hnz62 hbz62 hsO
      clear ho hbb
      go_wp2_with fail
      clear hz62
      refine (implAdd_c aP aR pp pr cP cR zp zr _ HPpp.out HPpr.out (by omega) (by omega) OP.out.rd'.2 OR.out.rd'.2 xa true qA T2.out LNA.out).mono ?_
      rintro e y63 ⟨aNN, cNN, rfl, ho, hbb⟩
      obtain ⟨z64, hz64⟩ : ∃ x, (y63.alloc (Obj.cells #[Value.slice aNN qA cNN] 25)) = x := ⟨_, rfl⟩
      have hnz64 : Below y63.heap.size y63 z64 := by rw [← hz64]; exact balloc _ _
      have hbz64 : Below z62.heap.size z62 z64 := hbb.trans (hnz64.mono hbb.size)
      have hszz64 : w.heap.size ≤ y63.heap.size := Nat.le_trans HB.out.size hbb.size
      have hsO : w.heap.size ≤ z62.heap.size := HB.out.size
      replace kA : z64.cell? ⟨y1.heap.size, 0, none⟩ = some (.slice aA qA cA) := keepC hbz64 kA
      replace OA : Hid (Own z64 w.heap.size (.slice aA qA cA) xa) := OA.out.later hbz64
      replace kB : z64.cell? ⟨y1.heap.size + 1, 0, none⟩ = some (.slice aB qB cB) := keepC hbz64 kB
      replace OB : Hid (Own z64 w.heap.size (.slice aB qB cB) xb) := OB.out.later hbz64
      replace kQ : z64.cell? ⟨y7.heap.size, 0, none⟩ = some (.slice aQ pq cQ) := keepC hbz64 kQ
      replace OQ : Hid (Own z64 w.heap.size (.slice aQ pq cQ) zq) := OQ.out.later hbz64
      replace kR : z64.cell? ⟨y7.heap.size + 1, 0, none⟩ = some (.slice aR pr cR) := keepC hbz64 kR
      replace OR : Hid (Own z64 w.heap.size (.slice aR pr cR) zr) := OR.out.later hbz64
      replace kP : z64.cell? ⟨y61.heap.size, 0, none⟩ = some (.slice aP pp cP) := keepC hbz64 kP
      replace OP : Hid (Own z64 w.heap.size (.slice aP pp cP) zp) := OP.out.later hbz64
      replace HB : Hid (Below w.heap.size w z64) := HB.out.trans (hbz64.mono HB.out.size)
      have kNN : z64.cell? ⟨y63.heap.size, 0, none⟩ = some (.slice aNN qA cNN) := by rw [← hz64]; exact cnew _ _ _
      have ONN : Hid (Own z64 w.heap.size (.slice aNN qA cNN) xa) := (ho.mono hsO).later hnz64
      clear hnz64 hbz64 hsO
      clear ho hbb
      go_wp2_with fail
      clear hz64
      refine (implCompare_c aR aB pr qB cR cB zr xb _ HPpr.out LNB.out (by omega) (by omega) OR.out.rd'.2 OB.out.rd'.2).mono ?_
      rw [T3.out]
      rintro e y65 ⟨rfl, hbb⟩
      replace kA : y65.cell? ⟨y1.heap.size, 0, none⟩ = some (.slice aA qA cA) := keepC hbb kA
      replace OA : Hid (Own y65 w.heap.size (.slice aA qA cA) xa) := OA.out.later hbb
      replace kB : y65.cell? ⟨y1.heap.size + 1, 0, none⟩ = some (.slice aB qB cB) := keepC hbb kB
      replace OB : Hid (Own y65 w.heap.size (.slice aB qB cB) xb) := OB.out.later hbb
      replace kQ : y65.cell? ⟨y7.heap.size, 0, none⟩ = some (.slice aQ pq cQ) := keepC hbb kQ
      replace OQ : Hid (Own y65 w.heap.size (.slice aQ pq cQ) zq) := OQ.out.later hbb
      replace kR : y65.cell? ⟨y7.heap.size + 1, 0, none⟩ = some (.slice aR pr cR) := keepC hbb kR
      replace OR : Hid (Own y65 w.heap.size (.slice aR pr cR) zr) := OR.out.later hbb
      replace kP : y65.cell? ⟨y61.heap.size, 0, none⟩ = some (.slice aP pp cP) := keepC hbb kP
      replace OP : Hid (Own y65 w.heap.size (.slice aP pp cP) zp) := OP.out.later hbb
      replace kNN : y65.cell? ⟨y63.heap.size, 0, none⟩ = some (.slice aNN qA cNN) := keepC hbb kNN
      replace ONN : Hid (Own y65 w.heap.size (.slice aNN qA cNN) xa) := ONN.out.later hbb
      replace HB : Hid (Below w.heap.size w y65) := HB.out.trans (hbb.mono HB.out.size)
      clear hbb
      go_wp2_with fail
      refine (sameBig_t _ LNA.out (by omega) ONN.out.rd'.2 OA.out.rd'.2).mono ?_
      rintro e y66 ⟨rfl, hbb⟩
      replace kA : y66.cell? ⟨y1.heap.size, 0, none⟩ = some (.slice aA qA cA) := keepC hbb kA
      replace OA : Hid (Own y66 w.heap.size (.slice aA qA cA) xa) := OA.out.later hbb
      replace kB : y66.cell? ⟨y1.heap.size + 1, 0, none⟩ = some (.slice aB qB cB) := keepC hbb kB
      replace OB : Hid (Own y66 w.heap.size (.slice aB qB cB) xb) := OB.out.later hbb
      replace kQ : y66.cell? ⟨y7.heap.size, 0, none⟩ = some (.slice aQ pq cQ) := keepC hbb kQ
      replace OQ : Hid (Own y66 w.heap.size (.slice aQ pq cQ) zq) := OQ.out.later hbb
      replace kR : y66.cell? ⟨y7.heap.size + 1, 0, none⟩ = some (.slice aR pr cR) := keepC hbb kR
      replace OR : Hid (Own y66 w.heap.size (.slice aR pr cR) zr) := OR.out.later hbb
      replace kP : y66.cell? ⟨y61.heap.size, 0, none⟩ = some (.slice aP pp cP) := keepC hbb kP
      replace OP : Hid (Own y66 w.heap.size (.slice aP pp cP) zp) := OP.out.later hbb
      replace kNN : y66.cell? ⟨y63.heap.size, 0, none⟩ = some (.slice aNN qA cNN) := keepC hbb kNN
      replace ONN : Hid (Own y66 w.heap.size (.slice aNN qA cNN) xa) := ONN.out.later hbb
      replace HB : Hid (Below w.heap.size w y66) := HB.out.trans (hbb.mono HB.out.size)
      clear hbb
      clear e1 e2 e3 T1 T2 T3
      clear kA OA
      clear kB OB
      clear kQ OQ
      clear kR OR
      clear kP OP
      clear kNN ONN
      go_wp2_with fail
      refine (drawDigits_c bo m d _ hm (HM.out.later HB.out HB.out.size)).mono ?_
      rintro e y67 ⟨aX, qX, cX, xx, rfl, hqX, hlX, ho, hbb⟩
      have LNX : Hid (xx.length = qX) := hlX
      obtain ⟨z68, hz68⟩ : ∃ x, (y67.alloc (Obj.cells #[Value.slice aX qX cX] 25)) = x := ⟨_, rfl⟩
      have hnz68 : Below y67.heap.size y67 z68 := by rw [← hz68]; exact balloc _ _
      have hbz68 : Below y66.heap.size y66 z68 := hbb.trans (hnz68.mono hbb.size)
      have hszz68 : w.heap.size ≤ y67.heap.size := Nat.le_trans HB.out.size hbb.size
      have hsO : w.heap.size ≤ y66.heap.size := HB.out.size
      replace HB : Hid (Below w.heap.size w z68) := HB.out.trans (hbz68.mono HB.out.size)
      have kX : z68.cell? ⟨y67.heap.size, 0, none⟩ = some (.slice aX qX cX) := by rw [← hz68]; exact cnew _ _ _
      have OX : Hid (Own z68 w.heap.size (.slice aX qX cX) xx) := (ho.mono hsO).later hnz68
      clear hnz68 hbz68 hsO
      clear ho hbb hlX
      obtain ⟨St, ft, hF⟩ : ∃ z b, digitsF xx = (z, b) := ⟨_, _, rfl⟩
      have HFt : Hid (digitsF xx = (St, ft)) := hF
      have hst := digitsF_size hF
      clear hF
      go_wp2_with fail
      clear hz68
      refine (implDigits_c aX qX cX xx _ LNX.out (by omega) OX.out.rd'.2 St ft HFt.out).mono ?_
      rintro e y69 ⟨rfl, hbb⟩
      replace kX : y69.cell? ⟨y67.heap.size, 0, none⟩ = some (.slice aX qX cX) := keepC hbb kX
      replace OX : Hid (Own y69 w.heap.size (.slice aX qX cX) xx) := OX.out.later hbb
      replace HB : Hid (Below w.heap.size w y69) := HB.out.trans (hbb.mono HB.out.size)
      clear hbb
      go_wp2_with fail
      refine (specDigits_c aX qX cX xx _ LNX.out (by omega) OX.out.rd'.2 St ft HFt.out).mono ?_
      rintro e y70 ⟨rfl, hbb⟩
      replace kX : y70.cell? ⟨y67.heap.size, 0, none⟩ = some (.slice aX qX cX) := keepC hbb kX
      replace OX : Hid (Own y70 w.heap.size (.slice aX qX cX) xx) := OX.out.later hbb
      replace HB : Hid (Below w.heap.size w y70) := HB.out.trans (hbb.mono HB.out.size)
      clear hbb
      go_wp2_with fail
      refine (drawOf_c bo m d _ hm (HM.out.later HB.out HB.out.size)).mono ?_
      rintro e y71 ⟨Su, rfl, hsu, hbb⟩
      replace kX : y71.cell? ⟨y67.heap.size, 0, none⟩ = some (.slice aX qX cX) := keepC hbb kX
      replace OX : Hid (Own y71 w.heap.size (.slice aX qX cX) xx) := OX.out.later hbb
      replace HB : Hid (Below w.heap.size w y71) := HB.out.trans (hbb.mono HB.out.size)
      clear hbb
      obtain ⟨zy, fy, hF⟩ : ∃ z b, digF (byts Su) = (z, b) := ⟨_, _, rfl⟩
      have HFy : Hid (digF (byts Su) = (zy, fy)) := hF
      obtain ⟨py, hp⟩ : ∃ p, zy.length = p := ⟨_, rfl⟩
      have HPpy : Hid (zy.length = py) := hp
      have hp6y : py ≤ 6 := by rw [← hp]; exact digF_short hF
      clear hF hp
      have e4 : (ft != ft) = false := by simp
      have e5 : (fy != fy) = false := by simp
      have e8 : (St.toList != St.toList) = false := by simp
      go_wp2_with fail
      refine (implDec_c Su _ (by omega) zy fy py HFy.out HPpy.out).mono ?_
      rintro e y72 ⟨aY, cY, rfl, ho, hbb⟩
      obtain ⟨z73, hz73⟩ : ∃ x, (y72.alloc (Obj.cells #[Value.slice aY py cY] 25)) = x := ⟨_, rfl⟩
      have hnz73 : Below y72.heap.size y72 z73 := by rw [← hz73]; exact balloc _ _
      have hbz73 : Below y71.heap.size y71 z73 := hbb.trans (hnz73.mono hbb.size)
      have hszz73 : w.heap.size ≤ y72.heap.size := Nat.le_trans HB.out.size hbb.size
      have hsO : w.heap.size ≤ y71.heap.size := HB.out.size
      replace kX : z73.cell? ⟨y67.heap.size, 0, none⟩ = some (.slice aX qX cX) := keepC hbz73 kX
      replace OX : Hid (Own z73 w.heap.size (.slice aX qX cX) xx) := OX.out.later hbz73
      replace HB : Hid (Below w.heap.size w z73) := HB.out.trans (hbz73.mono HB.out.size)
      have kY : z73.cell? ⟨y72.heap.size, 0, none⟩ = some (.slice aY py cY) := by rw [← hz73]; exact cnew _ _ _
      have OY : Hid (Own z73 w.heap.size (.slice aY py cY) zy) := (ho.mono hsO).later hnz73
      clear hnz73 hbz73 hsO
      clear ho hbb
      go_wp2_with fail
      clear hz73
      refine (specDec_c Su _ (by omega) zy fy py HFy.out HPpy.out).mono ?_
      rintro e y74 ⟨aOF, cOF, rfl, ho, hbb⟩
      obtain ⟨z75, hz75⟩ : ∃ x, (y74.alloc (Obj.cells #[Value.slice aOF py cOF] 25)) = x := ⟨_, rfl⟩
      have hnz75 : Below y74.heap.size y74 z75 := by rw [← hz75]; exact balloc _ _
      have hbz75 : Below z73.heap.size z73 z75 := hbb.trans (hnz75.mono hbb.size)
      have hszz75 : w.heap.size ≤ y74.heap.size := Nat.le_trans HB.out.size hbb.size
      have hsO : w.heap.size ≤ z73.heap.size := HB.out.size
      replace kX : z75.cell? ⟨y67.heap.size, 0, none⟩ = some (.slice aX qX cX) := keepC hbz75 kX
      replace OX : Hid (Own z75 w.heap.size (.slice aX qX cX) xx) := OX.out.later hbz75
      replace kY : z75.cell? ⟨y72.heap.size, 0, none⟩ = some (.slice aY py cY) := keepC hbz75 kY
      replace OY : Hid (Own z75 w.heap.size (.slice aY py cY) zy) := OY.out.later hbz75
      replace HB : Hid (Below w.heap.size w z75) := HB.out.trans (hbz75.mono HB.out.size)
      have kOF : z75.cell? ⟨y74.heap.size, 0, none⟩ = some (.slice aOF py cOF) := by rw [← hz75]; exact cnew _ _ _
      have OOF : Hid (Own z75 w.heap.size (.slice aOF py cOF) zy) := (ho.mono hsO).later hnz75
      clear hnz75 hbz75 hsO
      clear ho hbb
      go_wp2_with fail
      clear hz75
      refine (sameBig_t _ HPpy.out (by omega) OY.out.rd'.2 OOF.out.rd'.2).mono ?_
      rintro e y76 ⟨rfl, hbb⟩
      replace kX : y76.cell? ⟨y67.heap.size, 0, none⟩ = some (.slice aX qX cX) := keepC hbb kX
      replace OX : Hid (Own y76 w.heap.size (.slice aX qX cX) xx) := OX.out.later hbb
      replace kY : y76.cell? ⟨y72.heap.size, 0, none⟩ = some (.slice aY py cY) := keepC hbb kY
      replace OY : Hid (Own y76 w.heap.size (.slice aY py cY) zy) := OY.out.later hbb
      replace kOF : y76.cell? ⟨y74.heap.size, 0, none⟩ = some (.slice aOF py cOF) := keepC hbb kOF
      replace OOF : Hid (Own y76 w.heap.size (.slice aOF py cOF) zy) := OOF.out.later hbb
      replace HB : Hid (Below w.heap.size w y76) := HB.out.trans (hbb.mono HB.out.size)
      clear hbb
      clear kY OY
      clear kOF OOF
      clear e4 e5 e8
      cases ft with
      | false =>
        clear HFt
        clear kX OX
        go_wp2_with fail
        refine (drawShift_c bo m d _ hm (HM.out.later HB.out HB.out.size)).mono ?_
        rintro e y77 ⟨aZ, qZ, cZ, xz, by_, rfl, hqZ, hlZ, hby, ho, hbb⟩
        have LNZ : Hid (xz.length = qZ) := hlZ
        obtain ⟨z78, hz78⟩ : ∃ x, (y77.alloc (Obj.cells #[Value.slice aZ qZ cZ] 25)) = x := ⟨_, rfl⟩
        have hnz78 : Below y77.heap.size y77 z78 := by rw [← hz78]; exact balloc _ _
        have hbz78 : Below y76.heap.size y76 z78 := hbb.trans (hnz78.mono hbb.size)
        have hszz78 : w.heap.size ≤ y77.heap.size := Nat.le_trans HB.out.size hbb.size
        have hsO : w.heap.size ≤ y76.heap.size := HB.out.size
        replace HB : Hid (Below w.heap.size w z78) := HB.out.trans (hbz78.mono HB.out.size)
        have kZ : z78.cell? ⟨y77.heap.size, 0, none⟩ = some (.slice aZ qZ cZ) := by rw [← hz78]; exact cnew _ _ _
        have OZ : Hid (Own z78 w.heap.size (.slice aZ qZ cZ) xz) := (ho.mono hsO).later hnz78
        clear hnz78 hbz78 hsO
        clear ho hbb hlZ
        obtain ⟨zh, fh, hF⟩ : ∃ z b, shiftF xz by_ = (z, b) := ⟨_, _, rfl⟩
        have HFh : Hid (shiftF xz by_ = (zh, fh)) := hF
        obtain ⟨ph, hp⟩ : ∃ p, zh.length = p := ⟨_, rfl⟩
        have HPph : Hid (zh.length = ph) := hp
        have hp6h : ph ≤ 6 := by rw [← hp]; exact shiftF_less hF
        clear hF hp
        go_wp2_with fail
        clear hz78
        refine (implShift_c aZ qZ cZ xz by_ _ LNZ.out (by omega) OZ.out.rd'.2 (by omega) zh fh ph HFh.out HPph.out).mono ?_
        rintro e y79 ⟨aH, cH, rfl, ho, hbb⟩
        obtain ⟨z80, hz80⟩ : ∃ x, (y79.alloc (Obj.cells #[Value.slice aH ph cH] 25)) = x := ⟨_, rfl⟩
        have hnz80 : Below y79.heap.size y79 z80 := by rw [← hz80]; exact balloc _ _
        have hbz80 : Below z78.heap.size z78 z80 := hbb.trans (hnz80.mono hbb.size)
        have hszz80 : w.heap.size ≤ y79.heap.size := Nat.le_trans HB.out.size hbb.size
        have hsO : w.heap.size ≤ z78.heap.size := HB.out.size
        replace kZ : z80.cell? ⟨y77.heap.size, 0, none⟩ = some (.slice aZ qZ cZ) := keepC hbz80 kZ
        replace OZ : Hid (Own z80 w.heap.size (.slice aZ qZ cZ) xz) := OZ.out.later hbz80
        replace HB : Hid (Below w.heap.size w z80) := HB.out.trans (hbz80.mono HB.out.size)
        have kH : z80.cell? ⟨y79.heap.size, 0, none⟩ = some (.slice aH ph cH) := by rw [← hz80]; exact cnew _ _ _
        have OH : Hid (Own z80 w.heap.size (.slice aH ph cH) zh) := (ho.mono hsO).later hnz80
        clear hnz80 hbz80 hsO
        clear ho hbb
        go_wp2_with fail
        clear hz80
        refine (specShift_c aZ qZ cZ xz by_ _ LNZ.out (by omega) OZ.out.rdS (by omega) zh fh ph HFh.out HPph.out).mono ?_
        rintro e y81 ⟨aSH, cSH, rfl, ho, hbb⟩
        obtain ⟨z82, hz82⟩ : ∃ x, (y81.alloc (Obj.cells #[Value.slice aSH ph cSH] 25)) = x := ⟨_, rfl⟩
        have hnz82 : Below y81.heap.size y81 z82 := by rw [← hz82]; exact balloc _ _
        have hbz82 : Below z80.heap.size z80 z82 := hbb.trans (hnz82.mono hbb.size)
        have hszz82 : w.heap.size ≤ y81.heap.size := Nat.le_trans HB.out.size hbb.size
        have hsO : w.heap.size ≤ z80.heap.size := HB.out.size
        replace kZ : z82.cell? ⟨y77.heap.size, 0, none⟩ = some (.slice aZ qZ cZ) := keepC hbz82 kZ
        replace OZ : Hid (Own z82 w.heap.size (.slice aZ qZ cZ) xz) := OZ.out.later hbz82
        replace kH : z82.cell? ⟨y79.heap.size, 0, none⟩ = some (.slice aH ph cH) := keepC hbz82 kH
        replace OH : Hid (Own z82 w.heap.size (.slice aH ph cH) zh) := OH.out.later hbz82
        replace HB : Hid (Below w.heap.size w z82) := HB.out.trans (hbz82.mono HB.out.size)
        have kSH : z82.cell? ⟨y81.heap.size, 0, none⟩ = some (.slice aSH ph cSH) := by rw [← hz82]; exact cnew _ _ _
        have OSH : Hid (Own z82 w.heap.size (.slice aSH ph cSH) zh) := (ho.mono hsO).later hnz82
        clear hnz82 hbz82 hsO
        clear ho hbb
        go_wp2_with fail
        clear hz82
        refine (drawBigOf_c bo m d _ hm (HM.out.later HB.out HB.out.size)).mono ?_
        rintro e y83 ⟨nn, rfl, hnn, hbb⟩
        replace kZ : y83.cell? ⟨y77.heap.size, 0, none⟩ = some (.slice aZ qZ cZ) := keepC hbb kZ
        replace OZ : Hid (Own y83 w.heap.size (.slice aZ qZ cZ) xz) := OZ.out.later hbb
        replace kH : y83.cell? ⟨y79.heap.size, 0, none⟩ = some (.slice aH ph cH) := keepC hbb kH
        replace OH : Hid (Own y83 w.heap.size (.slice aH ph cH) zh) := OH.out.later hbb
        replace kSH : y83.cell? ⟨y81.heap.size, 0, none⟩ = some (.slice aSH ph cSH) := keepC hbb kSH
        replace OSH : Hid (Own y83 w.heap.size (.slice aSH ph cSH) zh) := OSH.out.later hbb
        replace HB : Hid (Below w.heap.size w y83) := HB.out.trans (hbb.mono HB.out.size)
        clear hbb
        obtain ⟨zo, fo, hF⟩ : ∃ z b, ofF nn = (z, b) := ⟨_, _, rfl⟩
        have HFo : Hid (ofF nn = (zo, fo)) := hF
        obtain ⟨po, hp⟩ : ∃ p, zo.length = p := ⟨_, rfl⟩
        have HPpo : Hid (zo.length = po) := hp
        have hp6o : po ≤ 6 := by rw [← hp]; exact ofF_short hF
        clear hF hp
        have e6 : (fh != fh) = false := by simp
        have e7 : (fo != fo) = false := by simp
        go_wp2_with fail
        refine (implOf_c nn _ (by omega) zo fo po HFo.out HPpo.out).mono ?_
        rintro e y84 ⟨aO1, cO1, rfl, ho, hbb⟩
        obtain ⟨z85, hz85⟩ : ∃ x, (y84.alloc (Obj.cells #[Value.slice aO1 po cO1] 25)) = x := ⟨_, rfl⟩
        have hnz85 : Below y84.heap.size y84 z85 := by rw [← hz85]; exact balloc _ _
        have hbz85 : Below y83.heap.size y83 z85 := hbb.trans (hnz85.mono hbb.size)
        have hszz85 : w.heap.size ≤ y84.heap.size := Nat.le_trans HB.out.size hbb.size
        have hsO : w.heap.size ≤ y83.heap.size := HB.out.size
        replace kZ : z85.cell? ⟨y77.heap.size, 0, none⟩ = some (.slice aZ qZ cZ) := keepC hbz85 kZ
        replace OZ : Hid (Own z85 w.heap.size (.slice aZ qZ cZ) xz) := OZ.out.later hbz85
        replace kH : z85.cell? ⟨y79.heap.size, 0, none⟩ = some (.slice aH ph cH) := keepC hbz85 kH
        replace OH : Hid (Own z85 w.heap.size (.slice aH ph cH) zh) := OH.out.later hbz85
        replace kSH : z85.cell? ⟨y81.heap.size, 0, none⟩ = some (.slice aSH ph cSH) := keepC hbz85 kSH
        replace OSH : Hid (Own z85 w.heap.size (.slice aSH ph cSH) zh) := OSH.out.later hbz85
        replace HB : Hid (Below w.heap.size w z85) := HB.out.trans (hbz85.mono HB.out.size)
        have kO1 : z85.cell? ⟨y84.heap.size, 0, none⟩ = some (.slice aO1 po cO1) := by rw [← hz85]; exact cnew _ _ _
        have OO1 : Hid (Own z85 w.heap.size (.slice aO1 po cO1) zo) := (ho.mono hsO).later hnz85
        clear hnz85 hbz85 hsO
        clear ho hbb
        go_wp2_with fail
        clear hz85
        refine (specOf_c nn _ (by omega) zo fo po HFo.out HPpo.out).mono ?_
        rintro e y86 ⟨aO2, cO2, rfl, ho, hbb⟩
        obtain ⟨z87, hz87⟩ : ∃ x, (y86.alloc (Obj.cells #[Value.slice aO2 po cO2] 25)) = x := ⟨_, rfl⟩
        have hnz87 : Below y86.heap.size y86 z87 := by rw [← hz87]; exact balloc _ _
        have hbz87 : Below z85.heap.size z85 z87 := hbb.trans (hnz87.mono hbb.size)
        have hszz87 : w.heap.size ≤ y86.heap.size := Nat.le_trans HB.out.size hbb.size
        have hsO : w.heap.size ≤ z85.heap.size := HB.out.size
        replace kZ : z87.cell? ⟨y77.heap.size, 0, none⟩ = some (.slice aZ qZ cZ) := keepC hbz87 kZ
        replace OZ : Hid (Own z87 w.heap.size (.slice aZ qZ cZ) xz) := OZ.out.later hbz87
        replace kH : z87.cell? ⟨y79.heap.size, 0, none⟩ = some (.slice aH ph cH) := keepC hbz87 kH
        replace OH : Hid (Own z87 w.heap.size (.slice aH ph cH) zh) := OH.out.later hbz87
        replace kSH : z87.cell? ⟨y81.heap.size, 0, none⟩ = some (.slice aSH ph cSH) := keepC hbz87 kSH
        replace OSH : Hid (Own z87 w.heap.size (.slice aSH ph cSH) zh) := OSH.out.later hbz87
        replace kO1 : z87.cell? ⟨y84.heap.size, 0, none⟩ = some (.slice aO1 po cO1) := keepC hbz87 kO1
        replace OO1 : Hid (Own z87 w.heap.size (.slice aO1 po cO1) zo) := OO1.out.later hbz87
        replace HB : Hid (Below w.heap.size w z87) := HB.out.trans (hbz87.mono HB.out.size)
        have kO2 : z87.cell? ⟨y86.heap.size, 0, none⟩ = some (.slice aO2 po cO2) := by rw [← hz87]; exact cnew _ _ _
        have OO2 : Hid (Own z87 w.heap.size (.slice aO2 po cO2) zo) := (ho.mono hsO).later hnz87
        clear hnz87 hbz87 hsO
        clear ho hbb
        go_wp2_with fail
        clear hz87
        refine (sameBig_t _ HPph.out (by omega) OH.out.rd'.2 OSH.out.rd'.2).mono ?_
        rintro e y88 ⟨rfl, hbb⟩
        replace kZ : y88.cell? ⟨y77.heap.size, 0, none⟩ = some (.slice aZ qZ cZ) := keepC hbb kZ
        replace OZ : Hid (Own y88 w.heap.size (.slice aZ qZ cZ) xz) := OZ.out.later hbb
        replace kH : y88.cell? ⟨y79.heap.size, 0, none⟩ = some (.slice aH ph cH) := keepC hbb kH
        replace OH : Hid (Own y88 w.heap.size (.slice aH ph cH) zh) := OH.out.later hbb
        replace kSH : y88.cell? ⟨y81.heap.size, 0, none⟩ = some (.slice aSH ph cSH) := keepC hbb kSH
        replace OSH : Hid (Own y88 w.heap.size (.slice aSH ph cSH) zh) := OSH.out.later hbb
        replace kO1 : y88.cell? ⟨y84.heap.size, 0, none⟩ = some (.slice aO1 po cO1) := keepC hbb kO1
        replace OO1 : Hid (Own y88 w.heap.size (.slice aO1 po cO1) zo) := OO1.out.later hbb
        replace kO2 : y88.cell? ⟨y86.heap.size, 0, none⟩ = some (.slice aO2 po cO2) := keepC hbb kO2
        replace OO2 : Hid (Own y88 w.heap.size (.slice aO2 po cO2) zo) := OO2.out.later hbb
        replace HB : Hid (Below w.heap.size w y88) := HB.out.trans (hbb.mono HB.out.size)
        clear hbb
        clear kSH OSH
        go_wp2_with fail
        refine (sameBig_t _ HPpo.out (by omega) OO1.out.rd'.2 OO2.out.rd'.2).mono ?_
        rintro e y89 ⟨rfl, hbb⟩
        replace kZ : y89.cell? ⟨y77.heap.size, 0, none⟩ = some (.slice aZ qZ cZ) := keepC hbb kZ
        replace OZ : Hid (Own y89 w.heap.size (.slice aZ qZ cZ) xz) := OZ.out.later hbb
        replace kH : y89.cell? ⟨y79.heap.size, 0, none⟩ = some (.slice aH ph cH) := keepC hbb kH
        replace OH : Hid (Own y89 w.heap.size (.slice aH ph cH) zh) := OH.out.later hbb
        replace kO1 : y89.cell? ⟨y84.heap.size, 0, none⟩ = some (.slice aO1 po cO1) := keepC hbb kO1
        replace OO1 : Hid (Own y89 w.heap.size (.slice aO1 po cO1) zo) := OO1.out.later hbb
        replace kO2 : y89.cell? ⟨y86.heap.size, 0, none⟩ = some (.slice aO2 po cO2) := keepC hbb kO2
        replace OO2 : Hid (Own y89 w.heap.size (.slice aO2 po cO2) zo) := OO2.out.later hbb
        replace HB : Hid (Below w.heap.size w y89) := HB.out.trans (hbb.mono HB.out.size)
        clear hbb
        clear kO1 OO1
        clear kO2 OO2
        cases fh with
        | false =>
          go_wp2
          go_ret
          exact ⟨rfl, HB.out⟩
        | true =>
          by_cases hb0 : 0 ≤ by_
          · have HS : Hid (shiftF zh (-by_) = (xz, true)) := shift_back HFh.out hb0
            go_wp2_with fail
            refine (implShift_c aH ph cH zh (-by_) _ HPph.out (by omega) OH.out.rd'.2 (by omega) xz true qZ HS.out LNZ.out).mono ?_
            rintro e y90 ⟨aBK, cBK, rfl, ho, hbb⟩
            obtain ⟨z91, hz91⟩ : ∃ x, (y90.alloc (Obj.cells #[Value.slice aBK qZ cBK] 25)) = x := ⟨_, rfl⟩
            have hnz91 : Below y90.heap.size y90 z91 := by rw [← hz91]; exact balloc _ _
            have hbz91 : Below y89.heap.size y89 z91 := hbb.trans (hnz91.mono hbb.size)
            have hszz91 : w.heap.size ≤ y90.heap.size := Nat.le_trans HB.out.size hbb.size
            have hsO : w.heap.size ≤ y89.heap.size := HB.out.size
            replace kZ : z91.cell? ⟨y77.heap.size, 0, none⟩ = some (.slice aZ qZ cZ) := keepC hbz91 kZ
            replace OZ : Hid (Own z91 w.heap.size (.slice aZ qZ cZ) xz) := OZ.out.later hbz91
            replace kH : z91.cell? ⟨y79.heap.size, 0, none⟩ = some (.slice aH ph cH) := keepC hbz91 kH
            replace OH : Hid (Own z91 w.heap.size (.slice aH ph cH) zh) := OH.out.later hbz91
            replace HB : Hid (Below w.heap.size w z91) := HB.out.trans (hbz91.mono HB.out.size)
            have kBK : z91.cell? ⟨y90.heap.size, 0, none⟩ = some (.slice aBK qZ cBK) := by rw [← hz91]; exact cnew _ _ _
            have OBK : Hid (Own z91 w.heap.size (.slice aBK qZ cBK) xz) := (ho.mono hsO).later hnz91
            clear hnz91 hbz91 hsO
            clear ho hbb
            go_wp2_with fail
            clear hz91
            refine (sameBig_t _ LNZ.out (by omega) OBK.out.rd'.2 OZ.out.rd'.2).mono ?_
            rintro e y92 ⟨rfl, hbb⟩
            replace kZ : y92.cell? ⟨y77.heap.size, 0, none⟩ = some (.slice aZ qZ cZ) := keepC hbb kZ
            replace OZ : Hid (Own y92 w.heap.size (.slice aZ qZ cZ) xz) := OZ.out.later hbb
            replace kH : y92.cell? ⟨y79.heap.size, 0, none⟩ = some (.slice aH ph cH) := keepC hbb kH
            replace OH : Hid (Own y92 w.heap.size (.slice aH ph cH) zh) := OH.out.later hbb
            replace kBK : y92.cell? ⟨y90.heap.size, 0, none⟩ = some (.slice aBK qZ cBK) := keepC hbb kBK
            replace OBK : Hid (Own y92 w.heap.size (.slice aBK qZ cBK) xz) := OBK.out.later hbb
            replace HB : Hid (Below w.heap.size w y92) := HB.out.trans (hbb.mono HB.out.size)
            clear hbb
            go_wp2
            go_ret
            exact ⟨rfl, HB.out⟩
          · go_wp2
            go_ret
            exact ⟨rfl, HB.out⟩
      | true =>
        have HBk : Hid (digF (byts St) = (xx, true)) := digits_back HFt.out
        clear HFt
        go_wp2_with fail
        refine (implDec_c St _ (by omega) xx true qX HBk.out LNX.out).mono ?_
        rintro e y93 ⟨aBA, cBA, rfl, ho, hbb⟩
        obtain ⟨z94, hz94⟩ : ∃ x, (y93.alloc (Obj.cells #[Value.slice aBA qX cBA] 25)) = x := ⟨_, rfl⟩
        have hnz94 : Below y93.heap.size y93 z94 := by rw [← hz94]; exact balloc _ _
        have hbz94 : Below y76.heap.size y76 z94 := hbb.trans (hnz94.mono hbb.size)
        have hszz94 : w.heap.size ≤ y93.heap.size := Nat.le_trans HB.out.size hbb.size
        have hsO : w.heap.size ≤ y76.heap.size := HB.out.size
        replace kX : z94.cell? ⟨y67.heap.size, 0, none⟩ = some (.slice aX qX cX) := keepC hbz94 kX
        replace OX : Hid (Own z94 w.heap.size (.slice aX qX cX) xx) := OX.out.later hbz94
        replace HB : Hid (Below w.heap.size w z94) := HB.out.trans (hbz94.mono HB.out.size)
        have kBA : z94.cell? ⟨y93.heap.size, 0, none⟩ = some (.slice aBA qX cBA) := by rw [← hz94]; exact cnew _ _ _
        have OBA : Hid (Own z94 w.heap.size (.slice aBA qX cBA) xx) := (ho.mono hsO).later hnz94
        clear hnz94 hbz94 hsO
        clear ho hbb
        go_wp2_with fail
        clear hz94
        refine (sameBig_t _ LNX.out (by omega) OBA.out.rd'.2 OX.out.rd'.2).mono ?_
        rintro e y95 ⟨rfl, hbb⟩
        replace kX : y95.cell? ⟨y67.heap.size, 0, none⟩ = some (.slice aX qX cX) := keepC hbb kX
        replace OX : Hid (Own y95 w.heap.size (.slice aX qX cX) xx) := OX.out.later hbb
        replace kBA : y95.cell? ⟨y93.heap.size, 0, none⟩ = some (.slice aBA qX cBA) := keepC hbb kBA
        replace OBA : Hid (Own y95 w.heap.size (.slice aBA qX cBA) xx) := OBA.out.later hbb
        replace HB : Hid (Below w.heap.size w y95) := HB.out.trans (hbb.mono HB.out.size)
        clear hbb
        clear kBA OBA
        clear kX OX
        go_wp2_with fail
        refine (drawShift_c bo m d _ hm (HM.out.later HB.out HB.out.size)).mono ?_
        rintro e y96 ⟨aZ, qZ, cZ, xz, by_, rfl, hqZ, hlZ, hby, ho, hbb⟩
        have LNZ : Hid (xz.length = qZ) := hlZ
        obtain ⟨z97, hz97⟩ : ∃ x, (y96.alloc (Obj.cells #[Value.slice aZ qZ cZ] 25)) = x := ⟨_, rfl⟩
        have hnz97 : Below y96.heap.size y96 z97 := by rw [← hz97]; exact balloc _ _
        have hbz97 : Below y95.heap.size y95 z97 := hbb.trans (hnz97.mono hbb.size)
        have hszz97 : w.heap.size ≤ y96.heap.size := Nat.le_trans HB.out.size hbb.size
        have hsO : w.heap.size ≤ y95.heap.size := HB.out.size
        replace HB : Hid (Below w.heap.size w z97) := HB.out.trans (hbz97.mono HB.out.size)
        have kZ : z97.cell? ⟨y96.heap.size, 0, none⟩ = some (.slice aZ qZ cZ) := by rw [← hz97]; exact cnew _ _ _
        have OZ : Hid (Own z97 w.heap.size (.slice aZ qZ cZ) xz) := (ho.mono hsO).later hnz97
        clear hnz97 hbz97 hsO
        clear ho hbb hlZ
        obtain ⟨zh, fh, hF⟩ : ∃ z b, shiftF xz by_ = (z, b) := ⟨_, _, rfl⟩
        have HFh : Hid (shiftF xz by_ = (zh, fh)) := hF
        obtain ⟨ph, hp⟩ : ∃ p, zh.length = p := ⟨_, rfl⟩
        have HPph : Hid (zh.length = ph) := hp
        have hp6h : ph ≤ 6 := by rw [← hp]; exact shiftF_less hF
        clear hF hp
        go_wp2_with fail
        clear hz97
        refine (implShift_c aZ qZ cZ xz by_ _ LNZ.out (by omega) OZ.out.rd'.2 (by omega) zh fh ph HFh.out HPph.out).mono ?_
        rintro e y98 ⟨aH, cH, rfl, ho, hbb⟩
        obtain ⟨z99, hz99⟩ : ∃ x, (y98.alloc (Obj.cells #[Value.slice aH ph cH] 25)) = x := ⟨_, rfl⟩
        have hnz99 : Below y98.heap.size y98 z99 := by rw [← hz99]; exact balloc _ _
        have hbz99 : Below z97.heap.size z97 z99 := hbb.trans (hnz99.mono hbb.size)
        have hszz99 : w.heap.size ≤ y98.heap.size := Nat.le_trans HB.out.size hbb.size
        have hsO : w.heap.size ≤ z97.heap.size := HB.out.size
        replace kZ : z99.cell? ⟨y96.heap.size, 0, none⟩ = some (.slice aZ qZ cZ) := keepC hbz99 kZ
        replace OZ : Hid (Own z99 w.heap.size (.slice aZ qZ cZ) xz) := OZ.out.later hbz99
        replace HB : Hid (Below w.heap.size w z99) := HB.out.trans (hbz99.mono HB.out.size)
        have kH : z99.cell? ⟨y98.heap.size, 0, none⟩ = some (.slice aH ph cH) := by rw [← hz99]; exact cnew _ _ _
        have OH : Hid (Own z99 w.heap.size (.slice aH ph cH) zh) := (ho.mono hsO).later hnz99
        clear hnz99 hbz99 hsO
        clear ho hbb
        go_wp2_with fail
        clear hz99
        refine (specShift_c aZ qZ cZ xz by_ _ LNZ.out (by omega) OZ.out.rdS (by omega) zh fh ph HFh.out HPph.out).mono ?_
        rintro e y100 ⟨aSH, cSH, rfl, ho, hbb⟩
        obtain ⟨z101, hz101⟩ : ∃ x, (y100.alloc (Obj.cells #[Value.slice aSH ph cSH] 25)) = x := ⟨_, rfl⟩
        have hnz101 : Below y100.heap.size y100 z101 := by rw [← hz101]; exact balloc _ _
        have hbz101 : Below z99.heap.size z99 z101 := hbb.trans (hnz101.mono hbb.size)
        have hszz101 : w.heap.size ≤ y100.heap.size := Nat.le_trans HB.out.size hbb.size
        have hsO : w.heap.size ≤ z99.heap.size := HB.out.size
        replace kZ : z101.cell? ⟨y96.heap.size, 0, none⟩ = some (.slice aZ qZ cZ) := keepC hbz101 kZ
        replace OZ : Hid (Own z101 w.heap.size (.slice aZ qZ cZ) xz) := OZ.out.later hbz101
        replace kH : z101.cell? ⟨y98.heap.size, 0, none⟩ = some (.slice aH ph cH) := keepC hbz101 kH
        replace OH : Hid (Own z101 w.heap.size (.slice aH ph cH) zh) := OH.out.later hbz101
        replace HB : Hid (Below w.heap.size w z101) := HB.out.trans (hbz101.mono HB.out.size)
        have kSH : z101.cell? ⟨y100.heap.size, 0, none⟩ = some (.slice aSH ph cSH) := by rw [← hz101]; exact cnew _ _ _
        have OSH : Hid (Own z101 w.heap.size (.slice aSH ph cSH) zh) := (ho.mono hsO).later hnz101
        clear hnz101 hbz101 hsO
        clear ho hbb
        go_wp2_with fail
        clear hz101
        refine (drawBigOf_c bo m d _ hm (HM.out.later HB.out HB.out.size)).mono ?_
        rintro e y102 ⟨nn, rfl, hnn, hbb⟩
        replace kZ : y102.cell? ⟨y96.heap.size, 0, none⟩ = some (.slice aZ qZ cZ) := keepC hbb kZ
        replace OZ : Hid (Own y102 w.heap.size (.slice aZ qZ cZ) xz) := OZ.out.later hbb
        replace kH : y102.cell? ⟨y98.heap.size, 0, none⟩ = some (.slice aH ph cH) := keepC hbb kH
        replace OH : Hid (Own y102 w.heap.size (.slice aH ph cH) zh) := OH.out.later hbb
        replace kSH : y102.cell? ⟨y100.heap.size, 0, none⟩ = some (.slice aSH ph cSH) := keepC hbb kSH
        replace OSH : Hid (Own y102 w.heap.size (.slice aSH ph cSH) zh) := OSH.out.later hbb
        replace HB : Hid (Below w.heap.size w y102) := HB.out.trans (hbb.mono HB.out.size)
        clear hbb
        obtain ⟨zo, fo, hF⟩ : ∃ z b, ofF nn = (z, b) := ⟨_, _, rfl⟩
        have HFo : Hid (ofF nn = (zo, fo)) := hF
        obtain ⟨po, hp⟩ : ∃ p, zo.length = p := ⟨_, rfl⟩
        have HPpo : Hid (zo.length = po) := hp
        have hp6o : po ≤ 6 := by rw [← hp]; exact ofF_short hF
        clear hF hp
        have e6 : (fh != fh) = false := by simp
        have e7 : (fo != fo) = false := by simp
        go_wp2_with fail
        refine (implOf_c nn _ (by omega) zo fo po HFo.out HPpo.out).mono ?_
        rintro e y103 ⟨aO1, cO1, rfl, ho, hbb⟩
        obtain ⟨z104, hz104⟩ : ∃ x, (y103.alloc (Obj.cells #[Value.slice aO1 po cO1] 25)) = x := ⟨_, rfl⟩
        have hnz104 : Below y103.heap.size y103 z104 := by rw [← hz104]; exact balloc _ _
        have hbz104 : Below y102.heap.size y102 z104 := hbb.trans (hnz104.mono hbb.size)
        have hszz104 : w.heap.size ≤ y103.heap.size := Nat.le_trans HB.out.size hbb.size
        have hsO : w.heap.size ≤ y102.heap.size := HB.out.size
        replace kZ : z104.cell? ⟨y96.heap.size, 0, none⟩ = some (.slice aZ qZ cZ) := keepC hbz104 kZ
        replace OZ : Hid (Own z104 w.heap.size (.slice aZ qZ cZ) xz) := OZ.out.later hbz104
        replace kH : z104.cell? ⟨y98.heap.size, 0, none⟩ = some (.slice aH ph cH) := keepC hbz104 kH
        replace OH : Hid (Own z104 w.heap.size (.slice aH ph cH) zh) := OH.out.later hbz104
        replace kSH : z104.cell? ⟨y100.heap.size, 0, none⟩ = some (.slice aSH ph cSH) := keepC hbz104 kSH
        replace OSH : Hid (Own z104 w.heap.size (.slice aSH ph cSH) zh) := OSH.out.later hbz104
        replace HB : Hid (Below w.heap.size w z104) := HB.out.trans (hbz104.mono HB.out.size)
        have kO1 : z104.cell? ⟨y103.heap.size, 0, none⟩ = some (.slice aO1 po cO1) := by rw [← hz104]; exact cnew _ _ _
        have OO1 : Hid (Own z104 w.heap.size (.slice aO1 po cO1) zo) := (ho.mono hsO).later hnz104
        clear hnz104 hbz104 hsO
        clear ho hbb
        go_wp2_with fail
        clear hz104
        refine (specOf_c nn _ (by omega) zo fo po HFo.out HPpo.out).mono ?_
        rintro e y105 ⟨aO2, cO2, rfl, ho, hbb⟩
        obtain ⟨z106, hz106⟩ : ∃ x, (y105.alloc (Obj.cells #[Value.slice aO2 po cO2] 25)) = x := ⟨_, rfl⟩
        have hnz106 : Below y105.heap.size y105 z106 := by rw [← hz106]; exact balloc _ _
        have hbz106 : Below z104.heap.size z104 z106 := hbb.trans (hnz106.mono hbb.size)
        have hszz106 : w.heap.size ≤ y105.heap.size := Nat.le_trans HB.out.size hbb.size
        have hsO : w.heap.size ≤ z104.heap.size := HB.out.size
        replace kZ : z106.cell? ⟨y96.heap.size, 0, none⟩ = some (.slice aZ qZ cZ) := keepC hbz106 kZ
        replace OZ : Hid (Own z106 w.heap.size (.slice aZ qZ cZ) xz) := OZ.out.later hbz106
        replace kH : z106.cell? ⟨y98.heap.size, 0, none⟩ = some (.slice aH ph cH) := keepC hbz106 kH
        replace OH : Hid (Own z106 w.heap.size (.slice aH ph cH) zh) := OH.out.later hbz106
        replace kSH : z106.cell? ⟨y100.heap.size, 0, none⟩ = some (.slice aSH ph cSH) := keepC hbz106 kSH
        replace OSH : Hid (Own z106 w.heap.size (.slice aSH ph cSH) zh) := OSH.out.later hbz106
        replace kO1 : z106.cell? ⟨y103.heap.size, 0, none⟩ = some (.slice aO1 po cO1) := keepC hbz106 kO1
        replace OO1 : Hid (Own z106 w.heap.size (.slice aO1 po cO1) zo) := OO1.out.later hbz106
        replace HB : Hid (Below w.heap.size w z106) := HB.out.trans (hbz106.mono HB.out.size)
        have kO2 : z106.cell? ⟨y105.heap.size, 0, none⟩ = some (.slice aO2 po cO2) := by rw [← hz106]; exact cnew _ _ _
        have OO2 : Hid (Own z106 w.heap.size (.slice aO2 po cO2) zo) := (ho.mono hsO).later hnz106
        clear hnz106 hbz106 hsO
        clear ho hbb
        go_wp2_with fail
        clear hz106
        refine (sameBig_t _ HPph.out (by omega) OH.out.rd'.2 OSH.out.rd'.2).mono ?_
        rintro e y107 ⟨rfl, hbb⟩
        replace kZ : y107.cell? ⟨y96.heap.size, 0, none⟩ = some (.slice aZ qZ cZ) := keepC hbb kZ
        replace OZ : Hid (Own y107 w.heap.size (.slice aZ qZ cZ) xz) := OZ.out.later hbb
        replace kH : y107.cell? ⟨y98.heap.size, 0, none⟩ = some (.slice aH ph cH) := keepC hbb kH
        replace OH : Hid (Own y107 w.heap.size (.slice aH ph cH) zh) := OH.out.later hbb
        replace kSH : y107.cell? ⟨y100.heap.size, 0, none⟩ = some (.slice aSH ph cSH) := keepC hbb kSH
        replace OSH : Hid (Own y107 w.heap.size (.slice aSH ph cSH) zh) := OSH.out.later hbb
        replace kO1 : y107.cell? ⟨y103.heap.size, 0, none⟩ = some (.slice aO1 po cO1) := keepC hbb kO1
        replace OO1 : Hid (Own y107 w.heap.size (.slice aO1 po cO1) zo) := OO1.out.later hbb
        replace kO2 : y107.cell? ⟨y105.heap.size, 0, none⟩ = some (.slice aO2 po cO2) := keepC hbb kO2
        replace OO2 : Hid (Own y107 w.heap.size (.slice aO2 po cO2) zo) := OO2.out.later hbb
        replace HB : Hid (Below w.heap.size w y107) := HB.out.trans (hbb.mono HB.out.size)
        clear hbb
        clear kSH OSH
        go_wp2_with fail
        refine (sameBig_t _ HPpo.out (by omega) OO1.out.rd'.2 OO2.out.rd'.2).mono ?_
        rintro e y108 ⟨rfl, hbb⟩
        replace kZ : y108.cell? ⟨y96.heap.size, 0, none⟩ = some (.slice aZ qZ cZ) := keepC hbb kZ
        replace OZ : Hid (Own y108 w.heap.size (.slice aZ qZ cZ) xz) := OZ.out.later hbb
        replace kH : y108.cell? ⟨y98.heap.size, 0, none⟩ = some (.slice aH ph cH) := keepC hbb kH
        replace OH : Hid (Own y108 w.heap.size (.slice aH ph cH) zh) := OH.out.later hbb
        replace kO1 : y108.cell? ⟨y103.heap.size, 0, none⟩ = some (.slice aO1 po cO1) := keepC hbb kO1
        replace OO1 : Hid (Own y108 w.heap.size (.slice aO1 po cO1) zo) := OO1.out.later hbb
        replace kO2 : y108.cell? ⟨y105.heap.size, 0, none⟩ = some (.slice aO2 po cO2) := keepC hbb kO2
        replace OO2 : Hid (Own y108 w.heap.size (.slice aO2 po cO2) zo) := OO2.out.later hbb
        replace HB : Hid (Below w.heap.size w y108) := HB.out.trans (hbb.mono HB.out.size)
        clear hbb
        clear kO1 OO1
        clear kO2 OO2
        cases fh with
        | false =>
          go_wp2
          go_ret
          exact ⟨rfl, HB.out⟩
        | true =>
          by_cases hb0 : 0 ≤ by_
          · have HS : Hid (shiftF zh (-by_) = (xz, true)) := shift_back HFh.out hb0
            go_wp2_with fail
            refine (implShift_c aH ph cH zh (-by_) _ HPph.out (by omega) OH.out.rd'.2 (by omega) xz true qZ HS.out LNZ.out).mono ?_
            rintro e y109 ⟨aBK, cBK, rfl, ho, hbb⟩
            obtain ⟨z110, hz110⟩ : ∃ x, (y109.alloc (Obj.cells #[Value.slice aBK qZ cBK] 25)) = x := ⟨_, rfl⟩
            have hnz110 : Below y109.heap.size y109 z110 := by rw [← hz110]; exact balloc _ _
            have hbz110 : Below y108.heap.size y108 z110 := hbb.trans (hnz110.mono hbb.size)
            have hszz110 : w.heap.size ≤ y109.heap.size := Nat.le_trans HB.out.size hbb.size
            have hsO : w.heap.size ≤ y108.heap.size := HB.out.size
            replace kZ : z110.cell? ⟨y96.heap.size, 0, none⟩ = some (.slice aZ qZ cZ) := keepC hbz110 kZ
            replace OZ : Hid (Own z110 w.heap.size (.slice aZ qZ cZ) xz) := OZ.out.later hbz110
            replace kH : z110.cell? ⟨y98.heap.size, 0, none⟩ = some (.slice aH ph cH) := keepC hbz110 kH
            replace OH : Hid (Own z110 w.heap.size (.slice aH ph cH) zh) := OH.out.later hbz110
            replace HB : Hid (Below w.heap.size w z110) := HB.out.trans (hbz110.mono HB.out.size)
            have kBK : z110.cell? ⟨y109.heap.size, 0, none⟩ = some (.slice aBK qZ cBK) := by rw [← hz110]; exact cnew _ _ _
            have OBK : Hid (Own z110 w.heap.size (.slice aBK qZ cBK) xz) := (ho.mono hsO).later hnz110
            clear hnz110 hbz110 hsO
            clear ho hbb
            go_wp2_with fail
            clear hz110
            refine (sameBig_t _ LNZ.out (by omega) OBK.out.rd'.2 OZ.out.rd'.2).mono ?_
            rintro e y111 ⟨rfl, hbb⟩
            replace kZ : y111.cell? ⟨y96.heap.size, 0, none⟩ = some (.slice aZ qZ cZ) := keepC hbb kZ
            replace OZ : Hid (Own y111 w.heap.size (.slice aZ qZ cZ) xz) := OZ.out.later hbb
            replace kH : y111.cell? ⟨y98.heap.size, 0, none⟩ = some (.slice aH ph cH) := keepC hbb kH
            replace OH : Hid (Own y111 w.heap.size (.slice aH ph cH) zh) := OH.out.later hbb
            replace kBK : y111.cell? ⟨y109.heap.size, 0, none⟩ = some (.slice aBK qZ cBK) := keepC hbb kBK
            replace OBK : Hid (Own y111 w.heap.size (.slice aBK qZ cBK) xz) := OBK.out.later hbb
            replace HB : Hid (Below w.heap.size w y111) := HB.out.trans (hbb.mono HB.out.size)
            clear hbb
            go_wp2
            go_ret
            exact ⟨rfl, HB.out⟩
          · go_wp2
            go_ret
            exact ⟨rfl, HB.out⟩
  | true =>
    obtain ⟨u1, u2⟩ := add_back HFs.out
    have U1 : Hid (goodB zs = true) := u1
    have U2 : Hid (lessF zs xb = (xa, true)) := u2
    clear u1 u2 HFs
    go_wp2_with fail
    refine (implLess_c aS aB ps qB cS cB zs xb _ HPps.out LNB.out (by omega) (by omega) OS.out.rd'.2 OB.out.rd'.2 xa true qA U2.out LNA.out).mono ?_
    rintro e y112 ⟨aD, cD, rfl, ho, hbb⟩
    obtain ⟨z113, hz113⟩ : ∃ x, (y112.alloc (Obj.cells #[Value.slice aD qA cD] 25)) = x := ⟨_, rfl⟩
    have hnz113 : Below y112.heap.size y112 z113 := by rw [← hz113]; exact balloc _ _
    have hbz113 : Below y15.heap.size y15 z113 := hbb.trans (hnz113.mono hbb.size)
    have hszz113 : w.heap.size ≤ y112.heap.size := Nat.le_trans HB.out.size hbb.size
    have hsO : w.heap.size ≤ y15.heap.size := HB.out.size
    replace kA : z113.cell? ⟨y1.heap.size, 0, none⟩ = some (.slice aA qA cA) := keepC hbz113 kA
    replace OA : Hid (Own z113 w.heap.size (.slice aA qA cA) xa) := OA.out.later hbz113
    replace kB : z113.cell? ⟨y1.heap.size + 1, 0, none⟩ = some (.slice aB qB cB) := keepC hbz113 kB
    replace OB : Hid (Own z113 w.heap.size (.slice aB qB cB) xb) := OB.out.later hbz113
    replace kS : z113.cell? ⟨y3.heap.size, 0, none⟩ = some (.slice aS ps cS) := keepC hbz113 kS
    replace OS : Hid (Own z113 w.heap.size (.slice aS ps cS) zs) := OS.out.later hbz113
    replace kQ : z113.cell? ⟨y7.heap.size, 0, none⟩ = some (.slice aQ pq cQ) := keepC hbz113 kQ
    replace OQ : Hid (Own z113 w.heap.size (.slice aQ pq cQ) zq) := OQ.out.later hbz113
    replace kR : z113.cell? ⟨y7.heap.size + 1, 0, none⟩ = some (.slice aR pr cR) := keepC hbz113 kR
    replace OR : Hid (Own z113 w.heap.size (.slice aR pr cR) zr) := OR.out.later hbz113
    replace HB : Hid (Below w.heap.size w z113) := HB.out.trans (hbz113.mono HB.out.size)
    have kD : z113.cell? ⟨y112.heap.size, 0, none⟩ = some (.slice aD qA cD) := by rw [← hz113]; exact cnew _ _ _
    have OD : Hid (Own z113 w.heap.size (.slice aD qA cD) xa) := (ho.mono hsO).later hnz113
    clear hnz113 hbz113 hsO
    clear ho hbb
    go_wp2_with fail
    clear hz113
    refine (implGood_c aS ps cS zs _ HPps.out (by omega) OS.out.rd'.2).mono ?_
    rw [U1.out]
    rintro e y114 ⟨rfl, hbb⟩
    replace kA : y114.cell? ⟨y1.heap.size, 0, none⟩ = some (.slice aA qA cA) := keepC hbb kA
    replace OA : Hid (Own y114 w.heap.size (.slice aA qA cA) xa) := OA.out.later hbb
    replace kB : y114.cell? ⟨y1.heap.size + 1, 0, none⟩ = some (.slice aB qB cB) := keepC hbb kB
    replace OB : Hid (Own y114 w.heap.size (.slice aB qB cB) xb) := OB.out.later hbb
    replace kS : y114.cell? ⟨y3.heap.size, 0, none⟩ = some (.slice aS ps cS) := keepC hbb kS
    replace OS : Hid (Own y114 w.heap.size (.slice aS ps cS) zs) := OS.out.later hbb
    replace kQ : y114.cell? ⟨y7.heap.size, 0, none⟩ = some (.slice aQ pq cQ) := keepC hbb kQ
    replace OQ : Hid (Own y114 w.heap.size (.slice aQ pq cQ) zq) := OQ.out.later hbb
    replace kR : y114.cell? ⟨y7.heap.size + 1, 0, none⟩ = some (.slice aR pr cR) := keepC hbb kR
    replace OR : Hid (Own y114 w.heap.size (.slice aR pr cR) zr) := OR.out.later hbb
    replace kD : y114.cell? ⟨y112.heap.size, 0, none⟩ = some (.slice aD qA cD) := keepC hbb kD
    replace OD : Hid (Own y114 w.heap.size (.slice aD qA cD) xa) := OD.out.later hbb
    replace HB : Hid (Below w.heap.size w y114) := HB.out.trans (hbb.mono HB.out.size)
    clear hbb
    go_wp2_with fail
    refine (sameBig_t _ LNA.out (by omega) OD.out.rd'.2 OA.out.rd'.2).mono ?_
    rintro e y115 ⟨rfl, hbb⟩
    replace kA : y115.cell? ⟨y1.heap.size, 0, none⟩ = some (.slice aA qA cA) := keepC hbb kA
    replace OA : Hid (Own y115 w.heap.size (.slice aA qA cA) xa) := OA.out.later hbb
    replace kB : y115.cell? ⟨y1.heap.size + 1, 0, none⟩ = some (.slice aB qB cB) := keepC hbb kB
    replace OB : Hid (Own y115 w.heap.size (.slice aB qB cB) xb) := OB.out.later hbb
    replace kS : y115.cell? ⟨y3.heap.size, 0, none⟩ = some (.slice aS ps cS) := keepC hbb kS
    replace OS : Hid (Own y115 w.heap.size (.slice aS ps cS) zs) := OS.out.later hbb
    replace kQ : y115.cell? ⟨y7.heap.size, 0, none⟩ = some (.slice aQ pq cQ) := keepC hbb kQ
    replace OQ : Hid (Own y115 w.heap.size (.slice aQ pq cQ) zq) := OQ.out.later hbb
    replace kR : y115.cell? ⟨y7.heap.size + 1, 0, none⟩ = some (.slice aR pr cR) := keepC hbb kR
    replace OR : Hid (Own y115 w.heap.size (.slice aR pr cR) zr) := OR.out.later hbb
    replace kD : y115.cell? ⟨y112.heap.size, 0, none⟩ = some (.slice aD qA cD) := keepC hbb kD
    replace OD : Hid (Own y115 w.heap.size (.slice aD qA cD) xa) := OD.out.later hbb
    replace HB : Hid (Below w.heap.size w y115) := HB.out.trans (hbb.mono HB.out.size)
    clear hbb
    clear kD OD
    clear kS OS
    clear U1 U2
    cases fd with
    | false =>
      clear HFd e1 e2 e3
      clear kA OA
      clear kB OB
      clear kQ OQ
      clear kR OR
      go_wp2_with fail
      refine (drawDigits_c bo m d _ hm (HM.out.later HB.out HB.out.size)).mono ?_
      rintro e y116 ⟨aX, qX, cX, xx, rfl, hqX, hlX, ho, hbb⟩
      have LNX : Hid (xx.length = qX) := hlX
      obtain ⟨z117, hz117⟩ : ∃ x, (y116.alloc (Obj.cells #[Value.slice aX qX cX] 25)) = x := ⟨_, rfl⟩
      have hnz117 : Below y116.heap.size y116 z117 := by rw [← hz117]; exact balloc _ _
      have hbz117 : Below y115.heap.size y115 z117 := hbb.trans (hnz117.mono hbb.size)
      have hszz117 : w.heap.size ≤ y116.heap.size := Nat.le_trans HB.out.size hbb.size
      have hsO : w.heap.size ≤ y115.heap.size := HB.out.size
      replace HB : Hid (Below w.heap.size w z117) := HB.out.trans (hbz117.mono HB.out.size)
      have kX : z117.cell? ⟨y116.heap.size, 0, none⟩ = some (.slice aX qX cX) := by rw [← hz117]; exact cnew _ _ _
      have OX : Hid (Own z117 w.heap.size (.slice aX qX cX) xx) := (ho.mono hsO).later hnz117
      clear hnz117 hbz117 hsO
      clear ho hbb hlX
      obtain ⟨St, ft, hF⟩ : ∃ z b, digitsF xx = (z, b) := ⟨_, _, rfl⟩
      have HFt : Hid (digitsF xx = (St, ft)) := hF
      have hst := digitsF_size hF
      clear hF
      go_wp2_with fail
      clear hz117
      refine (implDigits_c aX qX cX xx _ LNX.out (by omega) OX.out.rd'.2 St ft HFt.out).mono ?_
      rintro e y118 ⟨rfl, hbb⟩
      replace kX : y118.cell? ⟨y116.heap.size, 0, none⟩ = some (.slice aX qX cX) := keepC hbb kX
      replace OX : Hid (Own y118 w.heap.size (.slice aX qX cX) xx) := OX.out.later hbb
      replace HB : Hid (Below w.heap.size w y118) := HB.out.trans (hbb.mono HB.out.size)
      clear hbb
      go_wp2_with fail
      refine (specDigits_c aX qX cX xx _ LNX.out (by omega) OX.out.rd'.2 St ft HFt.out).mono ?_
      rintro e y119 ⟨rfl, hbb⟩
      replace kX : y119.cell? ⟨y116.heap.size, 0, none⟩ = some (.slice aX qX cX) := keepC hbb kX
      replace OX : Hid (Own y119 w.heap.size (.slice aX qX cX) xx) := OX.out.later hbb
      replace HB : Hid (Below w.heap.size w y119) := HB.out.trans (hbb.mono HB.out.size)
      clear hbb
      go_wp2_with fail
      refine (drawOf_c bo m d _ hm (HM.out.later HB.out HB.out.size)).mono ?_
      rintro e y120 ⟨Su, rfl, hsu, hbb⟩
      replace kX : y120.cell? ⟨y116.heap.size, 0, none⟩ = some (.slice aX qX cX) := keepC hbb kX
      replace OX : Hid (Own y120 w.heap.size (.slice aX qX cX) xx) := OX.out.later hbb
      replace HB : Hid (Below w.heap.size w y120) := HB.out.trans (hbb.mono HB.out.size)
      clear hbb
      obtain ⟨zy, fy, hF⟩ : ∃ z b, digF (byts Su) = (z, b) := ⟨_, _, rfl⟩
      have HFy : Hid (digF (byts Su) = (zy, fy)) := hF
      obtain ⟨py, hp⟩ : ∃ p, zy.length = p := ⟨_, rfl⟩
      have HPpy : Hid (zy.length = py) := hp
      have hp6y : py ≤ 6 := by rw [← hp]; exact digF_short hF
      clear hF hp
      have e4 : (ft != ft) = false := by simp
      have e5 : (fy != fy) = false := by simp
      have e8 : (St.toList != St.toList) = false := by simp
      go_wp2_with fail
      refine (implDec_c Su _ (by omega) zy fy py HFy.out HPpy.out).mono ?_
      rintro e y121 ⟨aY, cY, rfl, ho, hbb⟩
      obtain ⟨z122, hz122⟩ : ∃ x, (y121.alloc (Obj.cells #[Value.slice aY py cY] 25)) = x := ⟨_, rfl⟩
      have hnz122 : Below y121.heap.size y121 z122 := by rw [← hz122]; exact balloc _ _
      have hbz122 : Below y120.heap.size y120 z122 := hbb.trans (hnz122.mono hbb.size)
      have hszz122 : w.heap.size ≤ y121.heap.size := Nat.le_trans HB.out.size hbb.size
      have hsO : w.heap.size ≤ y120.heap.size := HB.out.size
      replace kX : z122.cell? ⟨y116.heap.size, 0, none⟩ = some (.slice aX qX cX) := keepC hbz122 kX
      replace OX : Hid (Own z122 w.heap.size (.slice aX qX cX) xx) := OX.out.later hbz122
      replace HB : Hid (Below w.heap.size w z122) := HB.out.trans (hbz122.mono HB.out.size)
      have kY : z122.cell? ⟨y121.heap.size, 0, none⟩ = some (.slice aY py cY) := by rw [← hz122]; exact cnew _ _ _
      have OY : Hid (Own z122 w.heap.size (.slice aY py cY) zy) := (ho.mono hsO).later hnz122
      clear hnz122 hbz122 hsO
      clear ho hbb
      go_wp2_with fail
      clear hz122
      refine (specDec_c Su _ (by omega) zy fy py HFy.out HPpy.out).mono ?_
      rintro e y123 ⟨aOF, cOF, rfl, ho, hbb⟩
      obtain ⟨z124, hz124⟩ : ∃ x, (y123.alloc (Obj.cells #[Value.slice aOF py cOF] 25)) = x := ⟨_, rfl⟩
      have hnz124 : Below y123.heap.size y123 z124 := by rw [← hz124]; exact balloc _ _
      have hbz124 : Below z122.heap.size z122 z124 := hbb.trans (hnz124.mono hbb.size)
      have hszz124 : w.heap.size ≤ y123.heap.size := Nat.le_trans HB.out.size hbb.size
      have hsO : w.heap.size ≤ z122.heap.size := HB.out.size
      replace kX : z124.cell? ⟨y116.heap.size, 0, none⟩ = some (.slice aX qX cX) := keepC hbz124 kX
      replace OX : Hid (Own z124 w.heap.size (.slice aX qX cX) xx) := OX.out.later hbz124
      replace kY : z124.cell? ⟨y121.heap.size, 0, none⟩ = some (.slice aY py cY) := keepC hbz124 kY
      replace OY : Hid (Own z124 w.heap.size (.slice aY py cY) zy) := OY.out.later hbz124
      replace HB : Hid (Below w.heap.size w z124) := HB.out.trans (hbz124.mono HB.out.size)
      have kOF : z124.cell? ⟨y123.heap.size, 0, none⟩ = some (.slice aOF py cOF) := by rw [← hz124]; exact cnew _ _ _
      have OOF : Hid (Own z124 w.heap.size (.slice aOF py cOF) zy) := (ho.mono hsO).later hnz124
      clear hnz124 hbz124 hsO
      clear ho hbb
      go_wp2_with fail
      clear hz124
      refine (sameBig_t _ HPpy.out (by omega) OY.out.rd'.2 OOF.out.rd'.2).mono ?_
      rintro e y125 ⟨rfl, hbb⟩
      replace kX : y125.cell? ⟨y116.heap.size, 0, none⟩ = some (.slice aX qX cX) := keepC hbb kX
      replace OX : Hid (Own y125 w.heap.size (.slice aX qX cX) xx) := OX.out.later hbb
      replace kY : y125.cell? ⟨y121.heap.size, 0, none⟩ = some (.slice aY py cY) := keepC hbb kY
      replace OY : Hid (Own y125 w.heap.size (.slice aY py cY) zy) := OY.out.later hbb
      replace kOF : y125.cell? ⟨y123.heap.size, 0, none⟩ = some (.slice aOF py cOF) := keepC hbb kOF
      replace OOF : Hid (Own y125 w.heap.size (.slice aOF py cOF) zy) := OOF.out.later hbb
      replace HB : Hid (Below w.heap.size w y125) := HB.out.trans (hbb.mono HB.out.size)
      clear hbb
      clear kY OY
      clear kOF OOF
      clear e4 e5 e8
      cases ft with
      | false =>
        clear HFt
        clear kX OX
        go_wp2_with fail
        refine (drawShift_c bo m d _ hm (HM.out.later HB.out HB.out.size)).mono ?_
        rintro e y126 ⟨aZ, qZ, cZ, xz, by_, rfl, hqZ, hlZ, hby, ho, hbb⟩
        have LNZ : Hid (xz.length = qZ) := hlZ
        obtain ⟨z127, hz127⟩ : ∃ x, (y126.alloc (Obj.cells #[Value.slice aZ qZ cZ] 25)) = x := ⟨_, rfl⟩
        have hnz127 : Below y126.heap.size y126 z127 := by rw [← hz127]; exact balloc _ _
        have hbz127 : Below y125.heap.size y125 z127 := hbb.trans (hnz127.mono hbb.size)
        have hszz127 : w.heap.size ≤ y126.heap.size := Nat.le_trans HB.out.size hbb.size
        have hsO : w.heap.size ≤ y125.heap.size := HB.out.size
        replace HB : Hid (Below w.heap.size w z127) := HB.out.trans (hbz127.mono HB.out.size)
        have kZ : z127.cell? ⟨y126.heap.size, 0, none⟩ = some (.slice aZ qZ cZ) := by rw [← hz127]; exact cnew _ _ _
        have OZ : Hid (Own z127 w.heap.size (.slice aZ qZ cZ) xz) := (ho.mono hsO).later hnz127
        clear hnz127 hbz127 hsO
        clear ho hbb hlZ
        obtain ⟨zh, fh, hF⟩ : ∃ z b, shiftF xz by_ = (z, b) := ⟨_, _, rfl⟩
        have HFh : Hid (shiftF xz by_ = (zh, fh)) := hF
        obtain ⟨ph, hp⟩ : ∃ p, zh.length = p := ⟨_, rfl⟩
        have HPph : Hid (zh.length = ph) := hp
        have hp6h : ph ≤ 6 := by rw [← hp]; exact shiftF_less hF
        clear hF hp
        go_wp2_with fail
        clear hz127
        refine (implShift_c aZ qZ cZ xz by_ _ LNZ.out (by omega) OZ.out.rd'.2 (by omega) zh fh ph HFh.out HPph.out).mono ?_
        rintro e y128 ⟨aH, cH, rfl, ho, hbb⟩
        obtain ⟨z129, hz129⟩ : ∃ x, (y128.alloc (Obj.cells #[Value.slice aH ph cH] 25)) = x := ⟨_, rfl⟩
        have hnz129 : Below y128.heap.size y128 z129 := by rw [← hz129]; exact balloc _ _
        have hbz129 : Below z127.heap.size z127 z129 := hbb.trans (hnz129.mono hbb.size)
        have hszz129 : w.heap.size ≤ y128.heap.size := Nat.le_trans HB.out.size hbb.size
        have hsO : w.heap.size ≤ z127.heap.size := HB.out.size
        replace kZ : z129.cell? ⟨y126.heap.size, 0, none⟩ = some (.slice aZ qZ cZ) := keepC hbz129 kZ
        replace OZ : Hid (Own z129 w.heap.size (.slice aZ qZ cZ) xz) := OZ.out.later hbz129
        replace HB : Hid (Below w.heap.size w z129) := HB.out.trans (hbz129.mono HB.out.size)
        have kH : z129.cell? ⟨y128.heap.size, 0, none⟩ = some (.slice aH ph cH) := by rw [← hz129]; exact cnew _ _ _
        have OH : Hid (Own z129 w.heap.size (.slice aH ph cH) zh) := (ho.mono hsO).later hnz129
        clear hnz129 hbz129 hsO
        clear ho hbb
        go_wp2_with fail
        clear hz129
        refine (specShift_c aZ qZ cZ xz by_ _ LNZ.out (by omega) OZ.out.rdS (by omega) zh fh ph HFh.out HPph.out).mono ?_
        rintro e y130 ⟨aSH, cSH, rfl, ho, hbb⟩
        obtain ⟨z131, hz131⟩ : ∃ x, (y130.alloc (Obj.cells #[Value.slice aSH ph cSH] 25)) = x := ⟨_, rfl⟩
        have hnz131 : Below y130.heap.size y130 z131 := by rw [← hz131]; exact balloc _ _
        have hbz131 : Below z129.heap.size z129 z131 := hbb.trans (hnz131.mono hbb.size)
        have hszz131 : w.heap.size ≤ y130.heap.size := Nat.le_trans HB.out.size hbb.size
        have hsO : w.heap.size ≤ z129.heap.size := HB.out.size
        replace kZ : z131.cell? ⟨y126.heap.size, 0, none⟩ = some (.slice aZ qZ cZ) := keepC hbz131 kZ
        replace OZ : Hid (Own z131 w.heap.size (.slice aZ qZ cZ) xz) := OZ.out.later hbz131
        replace kH : z131.cell? ⟨y128.heap.size, 0, none⟩ = some (.slice aH ph cH) := keepC hbz131 kH
        replace OH : Hid (Own z131 w.heap.size (.slice aH ph cH) zh) := OH.out.later hbz131
        replace HB : Hid (Below w.heap.size w z131) := HB.out.trans (hbz131.mono HB.out.size)
        have kSH : z131.cell? ⟨y130.heap.size, 0, none⟩ = some (.slice aSH ph cSH) := by rw [← hz131]; exact cnew _ _ _
        have OSH : Hid (Own z131 w.heap.size (.slice aSH ph cSH) zh) := (ho.mono hsO).later hnz131
        clear hnz131 hbz131 hsO
        clear ho hbb
        go_wp2_with fail
        clear hz131
        refine (drawBigOf_c bo m d _ hm (HM.out.later HB.out HB.out.size)).mono ?_
        rintro e y132 ⟨nn, rfl, hnn, hbb⟩
        replace kZ : y132.cell? ⟨y126.heap.size, 0, none⟩ = some (.slice aZ qZ cZ) := keepC hbb kZ
        replace OZ : Hid (Own y132 w.heap.size (.slice aZ qZ cZ) xz) := OZ.out.later hbb
        replace kH : y132.cell? ⟨y128.heap.size, 0, none⟩ = some (.slice aH ph cH) := keepC hbb kH
        replace OH : Hid (Own y132 w.heap.size (.slice aH ph cH) zh) := OH.out.later hbb
        replace kSH : y132.cell? ⟨y130.heap.size, 0, none⟩ = some (.slice aSH ph cSH) := keepC hbb kSH
        replace OSH : Hid (Own y132 w.heap.size (.slice aSH ph cSH) zh) := OSH.out.later hbb
        replace HB : Hid (Below w.heap.size w y132) := HB.out.trans (hbb.mono HB.out.size)
        clear hbb
        obtain ⟨zo, fo, hF⟩ : ∃ z b, ofF nn = (z, b) := ⟨_, _, rfl⟩
        have HFo : Hid (ofF nn = (zo, fo)) := hF
        obtain ⟨po, hp⟩ : ∃ p, zo.length = p := ⟨_, rfl⟩
        have HPpo : Hid (zo.length = po) := hp
        have hp6o : po ≤ 6 := by rw [← hp]; exact ofF_short hF
        clear hF hp
        have e6 : (fh != fh) = false := by simp
        have e7 : (fo != fo) = false := by simp
        go_wp2_with fail
        refine (implOf_c nn _ (by omega) zo fo po HFo.out HPpo.out).mono ?_
        rintro e y133 ⟨aO1, cO1, rfl, ho, hbb⟩
        obtain ⟨z134, hz134⟩ : ∃ x, (y133.alloc (Obj.cells #[Value.slice aO1 po cO1] 25)) = x := ⟨_, rfl⟩
        have hnz134 : Below y133.heap.size y133 z134 := by rw [← hz134]; exact balloc _ _
        have hbz134 : Below y132.heap.size y132 z134 := hbb.trans (hnz134.mono hbb.size)
        have hszz134 : w.heap.size ≤ y133.heap.size := Nat.le_trans HB.out.size hbb.size
        have hsO : w.heap.size ≤ y132.heap.size := HB.out.size
        replace kZ : z134.cell? ⟨y126.heap.size, 0, none⟩ = some (.slice aZ qZ cZ) := keepC hbz134 kZ
        replace OZ : Hid (Own z134 w.heap.size (.slice aZ qZ cZ) xz) := OZ.out.later hbz134
        replace kH : z134.cell? ⟨y128.heap.size, 0, none⟩ = some (.slice aH ph cH) := keepC hbz134 kH
        replace OH : Hid (Own z134 w.heap.size (.slice aH ph cH) zh) := OH.out.later hbz134
        replace kSH : z134.cell? ⟨y130.heap.size, 0, none⟩ = some (.slice aSH ph cSH) := keepC hbz134 kSH
        replace OSH : Hid (Own z134 w.heap.size (.slice aSH ph cSH) zh) := OSH.out.later hbz134
        replace HB : Hid (Below w.heap.size w z134) := HB.out.trans (hbz134.mono HB.out.size)
        have kO1 : z134.cell? ⟨y133.heap.size, 0, none⟩ = some (.slice aO1 po cO1) := by rw [← hz134]; exact cnew _ _ _
        have OO1 : Hid (Own z134 w.heap.size (.slice aO1 po cO1) zo) := (ho.mono hsO).later hnz134
        clear hnz134 hbz134 hsO
        clear ho hbb
        go_wp2_with fail
        clear hz134
        refine (specOf_c nn _ (by omega) zo fo po HFo.out HPpo.out).mono ?_
        rintro e y135 ⟨aO2, cO2, rfl, ho, hbb⟩
        obtain ⟨z136, hz136⟩ : ∃ x, (y135.alloc (Obj.cells #[Value.slice aO2 po cO2] 25)) = x := ⟨_, rfl⟩
        have hnz136 : Below y135.heap.size y135 z136 := by rw [← hz136]; exact balloc _ _
        have hbz136 : Below z134.heap.size z134 z136 := hbb.trans (hnz136.mono hbb.size)
        have hszz136 : w.heap.size ≤ y135.heap.size := Nat.le_trans HB.out.size hbb.size
        have hsO : w.heap.size ≤ z134.heap.size := HB.out.size
        replace kZ : z136.cell? ⟨y126.heap.size, 0, none⟩ = some (.slice aZ qZ cZ) := keepC hbz136 kZ
        replace OZ : Hid (Own z136 w.heap.size (.slice aZ qZ cZ) xz) := OZ.out.later hbz136
        replace kH : z136.cell? ⟨y128.heap.size, 0, none⟩ = some (.slice aH ph cH) := keepC hbz136 kH
        replace OH : Hid (Own z136 w.heap.size (.slice aH ph cH) zh) := OH.out.later hbz136
        replace kSH : z136.cell? ⟨y130.heap.size, 0, none⟩ = some (.slice aSH ph cSH) := keepC hbz136 kSH
        replace OSH : Hid (Own z136 w.heap.size (.slice aSH ph cSH) zh) := OSH.out.later hbz136
        replace kO1 : z136.cell? ⟨y133.heap.size, 0, none⟩ = some (.slice aO1 po cO1) := keepC hbz136 kO1
        replace OO1 : Hid (Own z136 w.heap.size (.slice aO1 po cO1) zo) := OO1.out.later hbz136
        replace HB : Hid (Below w.heap.size w z136) := HB.out.trans (hbz136.mono HB.out.size)
        have kO2 : z136.cell? ⟨y135.heap.size, 0, none⟩ = some (.slice aO2 po cO2) := by rw [← hz136]; exact cnew _ _ _
        have OO2 : Hid (Own z136 w.heap.size (.slice aO2 po cO2) zo) := (ho.mono hsO).later hnz136
        clear hnz136 hbz136 hsO
        clear ho hbb
        go_wp2_with fail
        clear hz136
        refine (sameBig_t _ HPph.out (by omega) OH.out.rd'.2 OSH.out.rd'.2).mono ?_
        rintro e y137 ⟨rfl, hbb⟩
        replace kZ : y137.cell? ⟨y126.heap.size, 0, none⟩ = some (.slice aZ qZ cZ) := keepC hbb kZ
        replace OZ : Hid (Own y137 w.heap.size (.slice aZ qZ cZ) xz) := OZ.out.later hbb
        replace kH : y137.cell? ⟨y128.heap.size, 0, none⟩ = some (.slice aH ph cH) := keepC hbb kH
        replace OH : Hid (Own y137 w.heap.size (.slice aH ph cH) zh) := OH.out.later hbb
        replace kSH : y137.cell? ⟨y130.heap.size, 0, none⟩ = some (.slice aSH ph cSH) := keepC hbb kSH
        replace OSH : Hid (Own y137 w.heap.size (.slice aSH ph cSH) zh) := OSH.out.later hbb
        replace kO1 : y137.cell? ⟨y133.heap.size, 0, none⟩ = some (.slice aO1 po cO1) := keepC hbb kO1
        replace OO1 : Hid (Own y137 w.heap.size (.slice aO1 po cO1) zo) := OO1.out.later hbb
        replace kO2 : y137.cell? ⟨y135.heap.size, 0, none⟩ = some (.slice aO2 po cO2) := keepC hbb kO2
        replace OO2 : Hid (Own y137 w.heap.size (.slice aO2 po cO2) zo) := OO2.out.later hbb
        replace HB : Hid (Below w.heap.size w y137) := HB.out.trans (hbb.mono HB.out.size)
        clear hbb
        clear kSH OSH
        go_wp2_with fail
        refine (sameBig_t _ HPpo.out (by omega) OO1.out.rd'.2 OO2.out.rd'.2).mono ?_
        rintro e y138 ⟨rfl, hbb⟩
        replace kZ : y138.cell? ⟨y126.heap.size, 0, none⟩ = some (.slice aZ qZ cZ) := keepC hbb kZ
        replace OZ : Hid (Own y138 w.heap.size (.slice aZ qZ cZ) xz) := OZ.out.later hbb
        replace kH : y138.cell? ⟨y128.heap.size, 0, none⟩ = some (.slice aH ph cH) := keepC hbb kH
        replace OH : Hid (Own y138 w.heap.size (.slice aH ph cH) zh) := OH.out.later hbb
        replace kO1 : y138.cell? ⟨y133.heap.size, 0, none⟩ = some (.slice aO1 po cO1) := keepC hbb kO1
        replace OO1 : Hid (Own y138 w.heap.size (.slice aO1 po cO1) zo) := OO1.out.later hbb
        replace kO2 : y138.cell? ⟨y135.heap.size, 0, none⟩ = some (.slice aO2 po cO2) := keepC hbb kO2
        replace OO2 : Hid (Own y138 w.heap.size (.slice aO2 po cO2) zo) := OO2.out.later hbb
        replace HB : Hid (Below w.heap.size w y138) := HB.out.trans (hbb.mono HB.out.size)
        clear hbb
        clear kO1 OO1
        clear kO2 OO2
        cases fh with
        | false =>
          go_wp2
          go_ret
          exact ⟨rfl, HB.out⟩
        | true =>
          by_cases hb0 : 0 ≤ by_
          · have HS : Hid (shiftF zh (-by_) = (xz, true)) := shift_back HFh.out hb0
            go_wp2_with fail
            refine (implShift_c aH ph cH zh (-by_) _ HPph.out (by omega) OH.out.rd'.2 (by omega) xz true qZ HS.out LNZ.out).mono ?_
            rintro e y139 ⟨aBK, cBK, rfl, ho, hbb⟩
            obtain ⟨z140, hz140⟩ : ∃ x, (y139.alloc (Obj.cells #[Value.slice aBK qZ cBK] 25)) = x := ⟨_, rfl⟩
            have hnz140 : Below y139.heap.size y139 z140 := by rw [← hz140]; exact balloc _ _
            have hbz140 : Below y138.heap.size y138 z140 := hbb.trans (hnz140.mono hbb.size)
            have hszz140 : w.heap.size ≤ y139.heap.size := Nat.le_trans HB.out.size hbb.size
            have hsO : w.heap.size ≤ y138.heap.size := HB.out.size
            replace kZ : z140.cell? ⟨y126.heap.size, 0, none⟩ = some (.slice aZ qZ cZ) := keepC hbz140 kZ
            replace OZ : Hid (Own z140 w.heap.size (.slice aZ qZ cZ) xz) := OZ.out.later hbz140
            replace kH : z140.cell? ⟨y128.heap.size, 0, none⟩ = some (.slice aH ph cH) := keepC hbz140 kH
            replace OH : Hid (Own z140 w.heap.size (.slice aH ph cH) zh) := OH.out.later hbz140
            replace HB : Hid (Below w.heap.size w z140) := HB.out.trans (hbz140.mono HB.out.size)
            have kBK : z140.cell? ⟨y139.heap.size, 0, none⟩ = some (.slice aBK qZ cBK) := by rw [← hz140]; exact cnew _ _ _
            have OBK : Hid (Own z140 w.heap.size (.slice aBK qZ cBK) xz) := (ho.mono hsO).later hnz140
            clear hnz140 hbz140 hsO
            clear ho hbb
            go_wp2_with fail
            clear hz140
            refine (sameBig_t _ LNZ.out (by omega) OBK.out.rd'.2 OZ.out.rd'.2).mono ?_
            rintro e y141 ⟨rfl, hbb⟩
            replace kZ : y141.cell? ⟨y126.heap.size, 0, none⟩ = some (.slice aZ qZ cZ) := keepC hbb kZ
            replace OZ : Hid (Own y141 w.heap.size (.slice aZ qZ cZ) xz) := OZ.out.later hbb
            replace kH : y141.cell? ⟨y128.heap.size, 0, none⟩ = some (.slice aH ph cH) := keepC hbb kH
            replace OH : Hid (Own y141 w.heap.size (.slice aH ph cH) zh) := OH.out.later hbb
            replace kBK : y141.cell? ⟨y139.heap.size, 0, none⟩ = some (.slice aBK qZ cBK) := keepC hbb kBK
            replace OBK : Hid (Own y141 w.heap.size (.slice aBK qZ cBK) xz) := OBK.out.later hbb
            replace HB : Hid (Below w.heap.size w y141) := HB.out.trans (hbb.mono HB.out.size)
            clear hbb
            go_wp2
            go_ret
            exact ⟨rfl, HB.out⟩
          · go_wp2
            go_ret
            exact ⟨rfl, HB.out⟩
      | true =>
        have HBk : Hid (digF (byts St) = (xx, true)) := digits_back HFt.out
        clear HFt
        go_wp2_with fail
        refine (implDec_c St _ (by omega) xx true qX HBk.out LNX.out).mono ?_
        rintro e y142 ⟨aBA, cBA, rfl, ho, hbb⟩
        obtain ⟨z143, hz143⟩ : ∃ x, (y142.alloc (Obj.cells #[Value.slice aBA qX cBA] 25)) = x := ⟨_, rfl⟩
        have hnz143 : Below y142.heap.size y142 z143 := by rw [← hz143]; exact balloc _ _
        have hbz143 : Below y125.heap.size y125 z143 := hbb.trans (hnz143.mono hbb.size)
        have hszz143 : w.heap.size ≤ y142.heap.size := Nat.le_trans HB.out.size hbb.size
        have hsO : w.heap.size ≤ y125.heap.size := HB.out.size
        replace kX : z143.cell? ⟨y116.heap.size, 0, none⟩ = some (.slice aX qX cX) := keepC hbz143 kX
        replace OX : Hid (Own z143 w.heap.size (.slice aX qX cX) xx) := OX.out.later hbz143
        replace HB : Hid (Below w.heap.size w z143) := HB.out.trans (hbz143.mono HB.out.size)
        have kBA : z143.cell? ⟨y142.heap.size, 0, none⟩ = some (.slice aBA qX cBA) := by rw [← hz143]; exact cnew _ _ _
        have OBA : Hid (Own z143 w.heap.size (.slice aBA qX cBA) xx) := (ho.mono hsO).later hnz143
        clear hnz143 hbz143 hsO
        clear ho hbb
        go_wp2_with fail
        clear hz143
        refine (sameBig_t _ LNX.out (by omega) OBA.out.rd'.2 OX.out.rd'.2).mono ?_
        rintro e y144 ⟨rfl, hbb⟩
        replace kX : y144.cell? ⟨y116.heap.size, 0, none⟩ = some (.slice aX qX cX) := keepC hbb kX
        replace OX : Hid (Own y144 w.heap.size (.slice aX qX cX) xx) := OX.out.later hbb
        replace kBA : y144.cell? ⟨y142.heap.size, 0, none⟩ = some (.slice aBA qX cBA) := keepC hbb kBA
        replace OBA : Hid (Own y144 w.heap.size (.slice aBA qX cBA) xx) := OBA.out.later hbb
        replace HB : Hid (Below w.heap.size w y144) := HB.out.trans (hbb.mono HB.out.size)
        clear hbb
        clear kBA OBA
        clear kX OX
        go_wp2_with fail
        refine (drawShift_c bo m d _ hm (HM.out.later HB.out HB.out.size)).mono ?_
        rintro e y145 ⟨aZ, qZ, cZ, xz, by_, rfl, hqZ, hlZ, hby, ho, hbb⟩
        have LNZ : Hid (xz.length = qZ) := hlZ
        obtain ⟨z146, hz146⟩ : ∃ x, (y145.alloc (Obj.cells #[Value.slice aZ qZ cZ] 25)) = x := ⟨_, rfl⟩
        have hnz146 : Below y145.heap.size y145 z146 := by rw [← hz146]; exact balloc _ _
        have hbz146 : Below y144.heap.size y144 z146 := hbb.trans (hnz146.mono hbb.size)
        have hszz146 : w.heap.size ≤ y145.heap.size := Nat.le_trans HB.out.size hbb.size
        have hsO : w.heap.size ≤ y144.heap.size := HB.out.size
        replace HB : Hid (Below w.heap.size w z146) := HB.out.trans (hbz146.mono HB.out.size)
        have kZ : z146.cell? ⟨y145.heap.size, 0, none⟩ = some (.slice aZ qZ cZ) := by rw [← hz146]; exact cnew _ _ _
        have OZ : Hid (Own z146 w.heap.size (.slice aZ qZ cZ) xz) := (ho.mono hsO).later hnz146
        clear hnz146 hbz146 hsO
        clear ho hbb hlZ
        obtain ⟨zh, fh, hF⟩ : ∃ z b, shiftF xz by_ = (z, b) := ⟨_, _, rfl⟩
        have HFh : Hid (shiftF xz by_ = (zh, fh)) := hF
        obtain ⟨ph, hp⟩ : ∃ p, zh.length = p := ⟨_, rfl⟩
        have HPph : Hid (zh.length = ph) := hp
        have hp6h : ph ≤ 6 := by rw [← hp]; exact shiftF_less hF
        clear hF hp
        go_wp2_with fail
        clear hz146
        refine (implShift_c aZ qZ cZ xz by_ _ LNZ.out (by omega) OZ.out.rd'.2 (by omega) zh fh ph HFh.out HPph.out).mono ?_
        rintro e y147 ⟨aH, cH, rfl, ho, hbb⟩
        obtain ⟨z148, hz148⟩ : ∃ x, (y147.alloc (Obj.cells #[Value.slice aH ph cH] 25)) = x := ⟨_, rfl⟩
        have hnz148 : Below y147.heap.size y147 z148 := by rw [← hz148]; exact balloc _ _
        have hbz148 : Below z146.heap.size z146 z148 := hbb.trans (hnz148.mono hbb.size)
        have hszz148 : w.heap.size ≤ y147.heap.size := Nat.le_trans HB.out.size hbb.size
        have hsO : w.heap.size ≤ z146.heap.size := HB.out.size
        replace kZ : z148.cell? ⟨y145.heap.size, 0, none⟩ = some (.slice aZ qZ cZ) := keepC hbz148 kZ
        replace OZ : Hid (Own z148 w.heap.size (.slice aZ qZ cZ) xz) := OZ.out.later hbz148
        replace HB : Hid (Below w.heap.size w z148) := HB.out.trans (hbz148.mono HB.out.size)
        have kH : z148.cell? ⟨y147.heap.size, 0, none⟩ = some (.slice aH ph cH) := by rw [← hz148]; exact cnew _ _ _
        have OH : Hid (Own z148 w.heap.size (.slice aH ph cH) zh) := (ho.mono hsO).later hnz148
        clear hnz148 hbz148 hsO
        clear ho hbb
        go_wp2_with fail
        clear hz148
        refine (specShift_c aZ qZ cZ xz by_ _ LNZ.out (by omega) OZ.out.rdS (by omega) zh fh ph HFh.out HPph.out).mono ?_
        rintro e y149 ⟨aSH, cSH, rfl, ho, hbb⟩
        obtain ⟨z150, hz150⟩ : ∃ x, (y149.alloc (Obj.cells #[Value.slice aSH ph cSH] 25)) = x := ⟨_, rfl⟩
        have hnz150 : Below y149.heap.size y149 z150 := by rw [← hz150]; exact balloc _ _
        have hbz150 : Below z148.heap.size z148 z150 := hbb.trans (hnz150.mono hbb.size)
        have hszz150 : w.heap.size ≤ y149.heap.size := Nat.le_trans HB.out.size hbb.size
        have hsO : w.heap.size ≤ z148.heap.size := HB.out.size
        replace kZ : z150.cell? ⟨y145.heap.size, 0, none⟩ = some (.slice aZ qZ cZ) := keepC hbz150 kZ
        replace OZ : Hid (Own z150 w.heap.size (.slice aZ qZ cZ) xz) := OZ.out.later hbz150
        replace kH : z150.cell? ⟨y147.heap.size, 0, none⟩ = some (.slice aH ph cH) := keepC hbz150 kH
        replace OH : Hid (Own z150 w.heap.size (.slice aH ph cH) zh) := OH.out.later hbz150
        replace HB : Hid (Below w.heap.size w z150) := HB.out.trans (hbz150.mono HB.out.size)
        have kSH : z150.cell? ⟨y149.heap.size, 0, none⟩ = some (.slice aSH ph cSH) := by rw [← hz150]; exact cnew _ _ _
        have OSH : Hid (Own z150 w.heap.size (.slice aSH ph cSH) zh) := (ho.mono hsO).later hnz150
        clear hnz150 hbz150 hsO
        clear ho hbb
        go_wp2_with fail
        clear hz150
        refine (drawBigOf_c bo m d _ hm (HM.out.later HB.out HB.out.size)).mono ?_
        rintro e y151 ⟨nn, rfl, hnn, hbb⟩
        replace kZ : y151.cell? ⟨y145.heap.size, 0, none⟩ = some (.slice aZ qZ cZ) := keepC hbb kZ
        replace OZ : Hid (Own y151 w.heap.size (.slice aZ qZ cZ) xz) := OZ.out.later hbb
        replace kH : y151.cell? ⟨y147.heap.size, 0, none⟩ = some (.slice aH ph cH) := keepC hbb kH
        replace OH : Hid (Own y151 w.heap.size (.slice aH ph cH) zh) := OH.out.later hbb
        replace kSH : y151.cell? ⟨y149.heap.size, 0, none⟩ = some (.slice aSH ph cSH) := keepC hbb kSH
        replace OSH : Hid (Own y151 w.heap.size (.slice aSH ph cSH) zh) := OSH.out.later hbb
        replace HB : Hid (Below w.heap.size w y151) := HB.out.trans (hbb.mono HB.out.size)
        clear hbb
        obtain ⟨zo, fo, hF⟩ : ∃ z b, ofF nn = (z, b) := ⟨_, _, rfl⟩
        have HFo : Hid (ofF nn = (zo, fo)) := hF
        obtain ⟨po, hp⟩ : ∃ p, zo.length = p := ⟨_, rfl⟩
        have HPpo : Hid (zo.length = po) := hp
        have hp6o : po ≤ 6 := by rw [← hp]; exact ofF_short hF
        clear hF hp
        have e6 : (fh != fh) = false := by simp
        have e7 : (fo != fo) = false := by simp
        go_wp2_with fail
        refine (implOf_c nn _ (by omega) zo fo po HFo.out HPpo.out).mono ?_
        rintro e y152 ⟨aO1, cO1, rfl, ho, hbb⟩
        obtain ⟨z153, hz153⟩ : ∃ x, (y152.alloc (Obj.cells #[Value.slice aO1 po cO1] 25)) = x := ⟨_, rfl⟩
        have hnz153 : Below y152.heap.size y152 z153 := by rw [← hz153]; exact balloc _ _
        have hbz153 : Below y151.heap.size y151 z153 := hbb.trans (hnz153.mono hbb.size)
        have hszz153 : w.heap.size ≤ y152.heap.size := Nat.le_trans HB.out.size hbb.size
        have hsO : w.heap.size ≤ y151.heap.size := HB.out.size
        replace kZ : z153.cell? ⟨y145.heap.size, 0, none⟩ = some (.slice aZ qZ cZ) := keepC hbz153 kZ
        replace OZ : Hid (Own z153 w.heap.size (.slice aZ qZ cZ) xz) := OZ.out.later hbz153
        replace kH : z153.cell? ⟨y147.heap.size, 0, none⟩ = some (.slice aH ph cH) := keepC hbz153 kH
        replace OH : Hid (Own z153 w.heap.size (.slice aH ph cH) zh) := OH.out.later hbz153
        replace kSH : z153.cell? ⟨y149.heap.size, 0, none⟩ = some (.slice aSH ph cSH) := keepC hbz153 kSH
        replace OSH : Hid (Own z153 w.heap.size (.slice aSH ph cSH) zh) := OSH.out.later hbz153
        replace HB : Hid (Below w.heap.size w z153) := HB.out.trans (hbz153.mono HB.out.size)
        have kO1 : z153.cell? ⟨y152.heap.size, 0, none⟩ = some (.slice aO1 po cO1) := by rw [← hz153]; exact cnew _ _ _
        have OO1 : Hid (Own z153 w.heap.size (.slice aO1 po cO1) zo) := (ho.mono hsO).later hnz153
        clear hnz153 hbz153 hsO
        clear ho hbb
        go_wp2_with fail
        clear hz153
        refine (specOf_c nn _ (by omega) zo fo po HFo.out HPpo.out).mono ?_
        rintro e y154 ⟨aO2, cO2, rfl, ho, hbb⟩
        obtain ⟨z155, hz155⟩ : ∃ x, (y154.alloc (Obj.cells #[Value.slice aO2 po cO2] 25)) = x := ⟨_, rfl⟩
        have hnz155 : Below y154.heap.size y154 z155 := by rw [← hz155]; exact balloc _ _
        have hbz155 : Below z153.heap.size z153 z155 := hbb.trans (hnz155.mono hbb.size)
        have hszz155 : w.heap.size ≤ y154.heap.size := Nat.le_trans HB.out.size hbb.size
        have hsO : w.heap.size ≤ z153.heap.size := HB.out.size
        replace kZ : z155.cell? ⟨y145.heap.size, 0, none⟩ = some (.slice aZ qZ cZ) := keepC hbz155 kZ
        replace OZ : Hid (Own z155 w.heap.size (.slice aZ qZ cZ) xz) := OZ.out.later hbz155
        replace kH : z155.cell? ⟨y147.heap.size, 0, none⟩ = some (.slice aH ph cH) := keepC hbz155 kH
        replace OH : Hid (Own z155 w.heap.size (.slice aH ph cH) zh) := OH.out.later hbz155
        replace kSH : z155.cell? ⟨y149.heap.size, 0, none⟩ = some (.slice aSH ph cSH) := keepC hbz155 kSH
        replace OSH : Hid (Own z155 w.heap.size (.slice aSH ph cSH) zh) := OSH.out.later hbz155
        replace kO1 : z155.cell? ⟨y152.heap.size, 0, none⟩ = some (.slice aO1 po cO1) := keepC hbz155 kO1
        replace OO1 : Hid (Own z155 w.heap.size (.slice aO1 po cO1) zo) := OO1.out.later hbz155
        replace HB : Hid (Below w.heap.size w z155) := HB.out.trans (hbz155.mono HB.out.size)
        have kO2 : z155.cell? ⟨y154.heap.size, 0, none⟩ = some (.slice aO2 po cO2) := by rw [← hz155]; exact cnew _ _ _
        have OO2 : Hid (Own z155 w.heap.size (.slice aO2 po cO2) zo) := (ho.mono hsO).later hnz155
        clear hnz155 hbz155 hsO
        clear ho hbb
        go_wp2_with fail
        clear hz155
        refine (sameBig_t _ HPph.out (by omega) OH.out.rd'.2 OSH.out.rd'.2).mono ?_
        rintro e y156 ⟨rfl, hbb⟩
        replace kZ : y156.cell? ⟨y145.heap.size, 0, none⟩ = some (.slice aZ qZ cZ) := keepC hbb kZ
        replace OZ : Hid (Own y156 w.heap.size (.slice aZ qZ cZ) xz) := OZ.out.later hbb
        replace kH : y156.cell? ⟨y147.heap.size, 0, none⟩ = some (.slice aH ph cH) := keepC hbb kH
        replace OH : Hid (Own y156 w.heap.size (.slice aH ph cH) zh) := OH.out.later hbb
        replace kSH : y156.cell? ⟨y149.heap.size, 0, none⟩ = some (.slice aSH ph cSH) := keepC hbb kSH
        replace OSH : Hid (Own y156 w.heap.size (.slice aSH ph cSH) zh) := OSH.out.later hbb
        replace kO1 : y156.cell? ⟨y152.heap.size, 0, none⟩ = some (.slice aO1 po cO1) := keepC hbb kO1
        replace OO1 : Hid (Own y156 w.heap.size (.slice aO1 po cO1) zo) := OO1.out.later hbb
        replace kO2 : y156.cell? ⟨y154.heap.size, 0, none⟩ = some (.slice aO2 po cO2) := keepC hbb kO2
        replace OO2 : Hid (Own y156 w.heap.size (.slice aO2 po cO2) zo) := OO2.out.later hbb
        replace HB : Hid (Below w.heap.size w y156) := HB.out.trans (hbb.mono HB.out.size)
        clear hbb
        clear kSH OSH
        go_wp2_with fail
        refine (sameBig_t _ HPpo.out (by omega) OO1.out.rd'.2 OO2.out.rd'.2).mono ?_
        rintro e y157 ⟨rfl, hbb⟩
        replace kZ : y157.cell? ⟨y145.heap.size, 0, none⟩ = some (.slice aZ qZ cZ) := keepC hbb kZ
        replace OZ : Hid (Own y157 w.heap.size (.slice aZ qZ cZ) xz) := OZ.out.later hbb
        replace kH : y157.cell? ⟨y147.heap.size, 0, none⟩ = some (.slice aH ph cH) := keepC hbb kH
        replace OH : Hid (Own y157 w.heap.size (.slice aH ph cH) zh) := OH.out.later hbb
        replace kO1 : y157.cell? ⟨y152.heap.size, 0, none⟩ = some (.slice aO1 po cO1) := keepC hbb kO1
        replace OO1 : Hid (Own y157 w.heap.size (.slice aO1 po cO1) zo) := OO1.out.later hbb
        replace kO2 : y157.cell? ⟨y154.heap.size, 0, none⟩ = some (.slice aO2 po cO2) := keepC hbb kO2
        replace OO2 : Hid (Own y157 w.heap.size (.slice aO2 po cO2) zo) := OO2.out.later hbb
        replace HB : Hid (Below w.heap.size w y157) := HB.out.trans (hbb.mono HB.out.size)
        clear hbb
        clear kO1 OO1
        clear kO2 OO2
        cases fh with
        | false =>
          go_wp2
          go_ret
          exact ⟨rfl, HB.out⟩
        | true =>
          by_cases hb0 : 0 ≤ by_
          · have HS : Hid (shiftF zh (-by_) = (xz, true)) := shift_back HFh.out hb0
            go_wp2_with fail
            refine (implShift_c aH ph cH zh (-by_) _ HPph.out (by omega) OH.out.rd'.2 (by omega) xz true qZ HS.out LNZ.out).mono ?_
            rintro e y158 ⟨aBK, cBK, rfl, ho, hbb⟩
            obtain ⟨z159, hz159⟩ : ∃ x, (y158.alloc (Obj.cells #[Value.slice aBK qZ cBK] 25)) = x := ⟨_, rfl⟩
            have hnz159 : Below y158.heap.size y158 z159 := by rw [← hz159]; exact balloc _ _
            have hbz159 : Below y157.heap.size y157 z159 := hbb.trans (hnz159.mono hbb.size)
            have hszz159 : w.heap.size ≤ y158.heap.size := Nat.le_trans HB.out.size hbb.size
            have hsO : w.heap.size ≤ y157.heap.size := HB.out.size
            replace kZ : z159.cell? ⟨y145.heap.size, 0, none⟩ = some (.slice aZ qZ cZ) := keepC hbz159 kZ
            replace OZ : Hid (Own z159 w.heap.size (.slice aZ qZ cZ) xz) := OZ.out.later hbz159
            replace kH : z159.cell? ⟨y147.heap.size, 0, none⟩ = some (.slice aH ph cH) := keepC hbz159 kH
            replace OH : Hid (Own z159 w.heap.size (.slice aH ph cH) zh) := OH.out.later hbz159
            replace HB : Hid (Below w.heap.size w z159) := HB.out.trans (hbz159.mono HB.out.size)
            have kBK : z159.cell? ⟨y158.heap.size, 0, none⟩ = some (.slice aBK qZ cBK) := by rw [← hz159]; exact cnew _ _ _
            have OBK : Hid (Own z159 w.heap.size (.slice aBK qZ cBK) xz) := (ho.mono hsO).later hnz159
            clear hnz159 hbz159 hsO
            clear ho hbb
            go_wp2_with fail
            clear hz159
            refine (sameBig_t _ LNZ.out (by omega) OBK.out.rd'.2 OZ.out.rd'.2).mono ?_
            rintro e y160 ⟨rfl, hbb⟩
            replace kZ : y160.cell? ⟨y145.heap.size, 0, none⟩ = some (.slice aZ qZ cZ) := keepC hbb kZ
            replace OZ : Hid (Own y160 w.heap.size (.slice aZ qZ cZ) xz) := OZ.out.later hbb
            replace kH : y160.cell? ⟨y147.heap.size, 0, none⟩ = some (.slice aH ph cH) := keepC hbb kH
            replace OH : Hid (Own y160 w.heap.size (.slice aH ph cH) zh) := OH.out.later hbb
            replace kBK : y160.cell? ⟨y158.heap.size, 0, none⟩ = some (.slice aBK qZ cBK) := keepC hbb kBK
            replace OBK : Hid (Own y160 w.heap.size (.slice aBK qZ cBK) xz) := OBK.out.later hbb
            replace HB : Hid (Below w.heap.size w y160) := HB.out.trans (hbb.mono HB.out.size)
            clear hbb
            go_wp2
            go_ret
            exact ⟨rfl, HB.out⟩
          · go_wp2
            go_ret
            exact ⟨rfl, HB.out⟩
    | true =>
      obtain ⟨zp, t1, t2, t3⟩ := div_back HFd.out
      have T1 : Hid (timesF zq xb = (zp, true)) := t1
      have T2 : Hid (addF zp zr = (xa, true)) := t2
      have T3 : Hid (cmpF zr xb = (-1, true)) := t3
      have hzp := timesF_short t1
      obtain ⟨pp, hp⟩ : ∃ p, zp.length = p := ⟨_, rfl⟩
      have HPpp : Hid (zp.length = pp) := hp
      rw [hp] at hzp
      clear hp t1 t2 t3 HFd
      go_wp2_with fail
      refine (implTimes_c aQ aB pq qB cQ cB zq xb _ HPpq.out LNB.out (by omega) (by omega) OQ.out.rd'.2 OB.out.rd'.2 zp true pp T1.out HPpp.out).mono ?_
      rintro e y161 ⟨aP, cP, rfl, ho, hbb⟩
      obtain ⟨z162, hz162⟩ : ∃ x, (y161.alloc (Obj.cells #[Value.slice aP pp cP] 25)) = x := ⟨_, rfl⟩
      have hnz162 : Below y161.heap.size y161 z162 := by rw [← hz162]; exact balloc _ _
      have hbz162 : Below y115.heap.size y115 z162 := hbb.trans (hnz162.mono hbb.size)
      have hszz162 : w.heap.size ≤ y161.heap.size := Nat.le_trans HB.out.size hbb.size
      have hsO : w.heap.size ≤ y115.heap.size := HB.out.size
      replace kA : z162.cell? ⟨y1.heap.size, 0, none⟩ = some (.slice aA qA cA) := keepC hbz162 kA
      replace OA : Hid (Own z162 w.heap.size (.slice aA qA cA) xa) := OA.out.later hbz162
      replace kB : z162.cell? ⟨y1.heap.size + 1, 0, none⟩ = some (.slice aB qB cB) := keepC hbz162 kB
      replace OB : Hid (Own z162 w.heap.size (.slice aB qB cB) xb) := OB.out.later hbz162
      replace kQ : z162.cell? ⟨y7.heap.size, 0, none⟩ = some (.slice aQ pq cQ) := keepC hbz162 kQ
      replace OQ : Hid (Own z162 w.heap.size (.slice aQ pq cQ) zq) := OQ.out.later hbz162
      replace kR : z162.cell? ⟨y7.heap.size + 1, 0, none⟩ = some (.slice aR pr cR) := keepC hbz162 kR
      replace OR : Hid (Own z162 w.heap.size (.slice aR pr cR) zr) := OR.out.later hbz162
      replace HB : Hid (Below w.heap.size w z162) := HB.out.trans (hbz162.mono HB.out.size)
      have kP : z162.cell? ⟨y161.heap.size, 0, none⟩ = some (.slice aP pp cP) := by rw [← hz162]; exact cnew _ _ _
      have OP : Hid (Own z162 w.heap.size (.slice aP pp cP) zp) := (ho.mono hsO).later hnz162
      clear hnz162 hbz162 hsO
      clear ho hbb
      go_wp2_with fail
      clear hz162
      refine (implAdd_c aP aR pp pr cP cR zp zr _ HPpp.out HPpr.out (by omega) (by omega) OP.out.rd'.2 OR.out.rd'.2 xa true qA T2.out LNA.out).mono ?_
      rintro e y163 ⟨aNN, cNN, rfl, ho, hbb⟩
      obtain ⟨z164, hz164⟩ : ∃ x, (y163.alloc (Obj.cells #[Value.slice aNN qA cNN] 25)) = x := ⟨_, rfl⟩
      have hnz164 : Below y163.heap.size y163 z164 := by rw [← hz164]; exact balloc _ _
      have hbz164 : Below z162.heap.size z162 z164 := hbb.trans (hnz164.mono hbb.size)
      have hszz164 : w.heap.size ≤ y163.heap.size := Nat.le_trans HB.out.size hbb.size
      have hsO : w.heap.size ≤ z162.heap.size := HB.out.size
      replace kA : z164.cell? ⟨y1.heap.size, 0, none⟩ = some (.slice aA qA cA) := keepC hbz164 kA
      replace OA : Hid (Own z164 w.heap.size (.slice aA qA cA) xa) := OA.out.later hbz164
      replace kB : z164.cell? ⟨y1.heap.size + 1, 0, none⟩ = some (.slice aB qB cB) := keepC hbz164 kB
      replace OB : Hid (Own z164 w.heap.size (.slice aB qB cB) xb) := OB.out.later hbz164
      replace kQ : z164.cell? ⟨y7.heap.size, 0, none⟩ = some (.slice aQ pq cQ) := keepC hbz164 kQ
      replace OQ : Hid (Own z164 w.heap.size (.slice aQ pq cQ) zq) := OQ.out.later hbz164
      replace kR : z164.cell? ⟨y7.heap.size + 1, 0, none⟩ = some (.slice aR pr cR) := keepC hbz164 kR
      replace OR : Hid (Own z164 w.heap.size (.slice aR pr cR) zr) := OR.out.later hbz164
      replace kP : z164.cell? ⟨y161.heap.size, 0, none⟩ = some (.slice aP pp cP) := keepC hbz164 kP
      replace OP : Hid (Own z164 w.heap.size (.slice aP pp cP) zp) := OP.out.later hbz164
      replace HB : Hid (Below w.heap.size w z164) := HB.out.trans (hbz164.mono HB.out.size)
      have kNN : z164.cell? ⟨y163.heap.size, 0, none⟩ = some (.slice aNN qA cNN) := by rw [← hz164]; exact cnew _ _ _
      have ONN : Hid (Own z164 w.heap.size (.slice aNN qA cNN) xa) := (ho.mono hsO).later hnz164
      clear hnz164 hbz164 hsO
      clear ho hbb
      go_wp2_with fail
      clear hz164
      refine (implCompare_c aR aB pr qB cR cB zr xb _ HPpr.out LNB.out (by omega) (by omega) OR.out.rd'.2 OB.out.rd'.2).mono ?_
      rw [T3.out]
      rintro e y165 ⟨rfl, hbb⟩
      replace kA : y165.cell? ⟨y1.heap.size, 0, none⟩ = some (.slice aA qA cA) := keepC hbb kA
      replace OA : Hid (Own y165 w.heap.size (.slice aA qA cA) xa) := OA.out.later hbb
      replace kB : y165.cell? ⟨y1.heap.size + 1, 0, none⟩ = some (.slice aB qB cB) := keepC hbb kB
      replace OB : Hid (Own y165 w.heap.size (.slice aB qB cB) xb) := OB.out.later hbb
      replace kQ : y165.cell? ⟨y7.heap.size, 0, none⟩ = some (.slice aQ pq cQ) := keepC hbb kQ
      replace OQ : Hid (Own y165 w.heap.size (.slice aQ pq cQ) zq) := OQ.out.later hbb
      replace kR : y165.cell? ⟨y7.heap.size + 1, 0, none⟩ = some (.slice aR pr cR) := keepC hbb kR
      replace OR : Hid (Own y165 w.heap.size (.slice aR pr cR) zr) := OR.out.later hbb
      replace kP : y165.cell? ⟨y161.heap.size, 0, none⟩ = some (.slice aP pp cP) := keepC hbb kP
      replace OP : Hid (Own y165 w.heap.size (.slice aP pp cP) zp) := OP.out.later hbb
      replace kNN : y165.cell? ⟨y163.heap.size, 0, none⟩ = some (.slice aNN qA cNN) := keepC hbb kNN
      replace ONN : Hid (Own y165 w.heap.size (.slice aNN qA cNN) xa) := ONN.out.later hbb
      replace HB : Hid (Below w.heap.size w y165) := HB.out.trans (hbb.mono HB.out.size)
      clear hbb
      go_wp2_with fail
      refine (sameBig_t _ LNA.out (by omega) ONN.out.rd'.2 OA.out.rd'.2).mono ?_
      rintro e y166 ⟨rfl, hbb⟩
      replace kA : y166.cell? ⟨y1.heap.size, 0, none⟩ = some (.slice aA qA cA) := keepC hbb kA
      replace OA : Hid (Own y166 w.heap.size (.slice aA qA cA) xa) := OA.out.later hbb
      replace kB : y166.cell? ⟨y1.heap.size + 1, 0, none⟩ = some (.slice aB qB cB) := keepC hbb kB
      replace OB : Hid (Own y166 w.heap.size (.slice aB qB cB) xb) := OB.out.later hbb
      replace kQ : y166.cell? ⟨y7.heap.size, 0, none⟩ = some (.slice aQ pq cQ) := keepC hbb kQ
      replace OQ : Hid (Own y166 w.heap.size (.slice aQ pq cQ) zq) := OQ.out.later hbb
      replace kR : y166.cell? ⟨y7.heap.size + 1, 0, none⟩ = some (.slice aR pr cR) := keepC hbb kR
      replace OR : Hid (Own y166 w.heap.size (.slice aR pr cR) zr) := OR.out.later hbb
      replace kP : y166.cell? ⟨y161.heap.size, 0, none⟩ = some (.slice aP pp cP) := keepC hbb kP
      replace OP : Hid (Own y166 w.heap.size (.slice aP pp cP) zp) := OP.out.later hbb
      replace kNN : y166.cell? ⟨y163.heap.size, 0, none⟩ = some (.slice aNN qA cNN) := keepC hbb kNN
      replace ONN : Hid (Own y166 w.heap.size (.slice aNN qA cNN) xa) := ONN.out.later hbb
      replace HB : Hid (Below w.heap.size w y166) := HB.out.trans (hbb.mono HB.out.size)
      clear hbb
      clear e1 e2 e3 T1 T2 T3
      clear kA OA
      clear kB OB
      clear kQ OQ
      clear kR OR
      clear kP OP
      clear kNN ONN
      go_wp2_with fail
      refine (drawDigits_c bo m d _ hm (HM.out.later HB.out HB.out.size)).mono ?_
      rintro e y167 ⟨aX, qX, cX, xx, rfl, hqX, hlX, ho, hbb⟩
      have LNX : Hid (xx.length = qX) := hlX
      obtain ⟨z168, hz168⟩ : ∃ x, (y167.alloc (Obj.cells #[Value.slice aX qX cX] 25)) = x := ⟨_, rfl⟩
      have hnz168 : Below y167.heap.size y167 z168 := by rw [← hz168]; exact balloc _ _
      have hbz168 : Below y166.heap.size y166 z168 := hbb.trans (hnz168.mono hbb.size)
      have hszz168 : w.heap.size ≤ y167.heap.size := Nat.le_trans HB.out.size hbb.size
      have hsO : w.heap.size ≤ y166.heap.size := HB.out.size
      replace HB : Hid (Below w.heap.size w z168) := HB.out.trans (hbz168.mono HB.out.size)
      have kX : z168.cell? ⟨y167.heap.size, 0, none⟩ = some (.slice aX qX cX) := by rw [← hz168]; exact cnew _ _ _
      have OX : Hid (Own z168 w.heap.size (.slice aX qX cX) xx) := (ho.mono hsO).later hnz168
      clear hnz168 hbz168 hsO
      clear ho hbb hlX
      obtain ⟨St, ft, hF⟩ : ∃ z b, digitsF xx = (z, b) := ⟨_, _, rfl⟩
      have HFt : Hid (digitsF xx = (St, ft)) := hF
      have hst := digitsF_size hF
      clear hF
      go_wp2_with fail
      clear hz168
      refine (implDigits_c aX qX cX xx _ LNX.out (by omega) OX.out.rd'.2 St ft HFt.out).mono ?_
      rintro e y169 ⟨rfl, hbb⟩
      replace kX : y169.cell? ⟨y167.heap.size, 0, none⟩ = some (.slice aX qX cX) := keepC hbb kX
      replace OX : Hid (Own y169 w.heap.size (.slice aX qX cX) xx) := OX.out.later hbb
      replace HB : Hid (Below w.heap.size w y169) := HB.out.trans (hbb.mono HB.out.size)
      clear hbb
      go_wp2_with fail
      refine (specDigits_c aX qX cX xx _ LNX.out (by omega) OX.out.rd'.2 St ft HFt.out).mono ?_
      rintro e y170 ⟨rfl, hbb⟩
      replace kX : y170.cell? ⟨y167.heap.size, 0, none⟩ = some (.slice aX qX cX) := keepC hbb kX
      replace OX : Hid (Own y170 w.heap.size (.slice aX qX cX) xx) := OX.out.later hbb
      replace HB : Hid (Below w.heap.size w y170) := HB.out.trans (hbb.mono HB.out.size)
      clear hbb
      go_wp2_with fail
      refine (drawOf_c bo m d _ hm (HM.out.later HB.out HB.out.size)).mono ?_
      rintro e y171 ⟨Su, rfl, hsu, hbb⟩
      replace kX : y171.cell? ⟨y167.heap.size, 0, none⟩ = some (.slice aX qX cX) := keepC hbb kX
      replace OX : Hid (Own y171 w.heap.size (.slice aX qX cX) xx) := OX.out.later hbb
      replace HB : Hid (Below w.heap.size w y171) := HB.out.trans (hbb.mono HB.out.size)
      clear hbb
      obtain ⟨zy, fy, hF⟩ : ∃ z b, digF (byts Su) = (z, b) := ⟨_, _, rfl⟩
      have HFy : Hid (digF (byts Su) = (zy, fy)) := hF
      obtain ⟨py, hp⟩ : ∃ p, zy.length = p := ⟨_, rfl⟩
      have HPpy : Hid (zy.length = py) := hp
      have hp6y : py ≤ 6 := by rw [← hp]; exact digF_short hF
      clear hF hp
      have e4 : (ft != ft) = false := by simp
      have e5 : (fy != fy) = false := by simp
      have e8 : (St.toList != St.toList) = false := by simp
      go_wp2_with fail
      refine (implDec_c Su _ (by omega) zy fy py HFy.out HPpy.out).mono ?_
      rintro e y172 ⟨aY, cY, rfl, ho, hbb⟩
      obtain ⟨z173, hz173⟩ : ∃ x, (y172.alloc (Obj.cells #[Value.slice aY py cY] 25)) = x := ⟨_, rfl⟩
      have hnz173 : Below y172.heap.size y172 z173 := by rw [← hz173]; exact balloc _ _
      have hbz173 : Below y171.heap.size y171 z173 := hbb.trans (hnz173.mono hbb.size)
      have hszz173 : w.heap.size ≤ y172.heap.size := Nat.le_trans HB.out.size hbb.size
      have hsO : w.heap.size ≤ y171.heap.size := HB.out.size
      replace kX : z173.cell? ⟨y167.heap.size, 0, none⟩ = some (.slice aX qX cX) := keepC hbz173 kX
      replace OX : Hid (Own z173 w.heap.size (.slice aX qX cX) xx) := OX.out.later hbz173
      replace HB : Hid (Below w.heap.size w z173) := HB.out.trans (hbz173.mono HB.out.size)
      have kY : z173.cell? ⟨y172.heap.size, 0, none⟩ = some (.slice aY py cY) := by rw [← hz173]; exact cnew _ _ _
      have OY : Hid (Own z173 w.heap.size (.slice aY py cY) zy) := (ho.mono hsO).later hnz173
      clear hnz173 hbz173 hsO
      clear ho hbb
      go_wp2_with fail
      clear hz173
      refine (specDec_c Su _ (by omega) zy fy py HFy.out HPpy.out).mono ?_
      rintro e y174 ⟨aOF, cOF, rfl, ho, hbb⟩
      obtain ⟨z175, hz175⟩ : ∃ x, (y174.alloc (Obj.cells #[Value.slice aOF py cOF] 25)) = x := ⟨_, rfl⟩
      have hnz175 : Below y174.heap.size y174 z175 := by rw [← hz175]; exact balloc _ _
      have hbz175 : Below z173.heap.size z173 z175 := hbb.trans (hnz175.mono hbb.size)
      have hszz175 : w.heap.size ≤ y174.heap.size := Nat.le_trans HB.out.size hbb.size
      have hsO : w.heap.size ≤ z173.heap.size := HB.out.size
      replace kX : z175.cell? ⟨y167.heap.size, 0, none⟩ = some (.slice aX qX cX) := keepC hbz175 kX
      replace OX : Hid (Own z175 w.heap.size (.slice aX qX cX) xx) := OX.out.later hbz175
      replace kY : z175.cell? ⟨y172.heap.size, 0, none⟩ = some (.slice aY py cY) := keepC hbz175 kY
      replace OY : Hid (Own z175 w.heap.size (.slice aY py cY) zy) := OY.out.later hbz175
      replace HB : Hid (Below w.heap.size w z175) := HB.out.trans (hbz175.mono HB.out.size)
      have kOF : z175.cell? ⟨y174.heap.size, 0, none⟩ = some (.slice aOF py cOF) := by rw [← hz175]; exact cnew _ _ _
      have OOF : Hid (Own z175 w.heap.size (.slice aOF py cOF) zy) := (ho.mono hsO).later hnz175
      clear hnz175 hbz175 hsO
      clear ho hbb
      go_wp2_with fail
      clear hz175
      refine (sameBig_t _ HPpy.out (by omega) OY.out.rd'.2 OOF.out.rd'.2).mono ?_
      rintro e y176 ⟨rfl, hbb⟩
      replace kX : y176.cell? ⟨y167.heap.size, 0, none⟩ = some (.slice aX qX cX) := keepC hbb kX
      replace OX : Hid (Own y176 w.heap.size (.slice aX qX cX) xx) := OX.out.later hbb
      replace kY : y176.cell? ⟨y172.heap.size, 0, none⟩ = some (.slice aY py cY) := keepC hbb kY
      replace OY : Hid (Own y176 w.heap.size (.slice aY py cY) zy) := OY.out.later hbb
      replace kOF : y176.cell? ⟨y174.heap.size, 0, none⟩ = some (.slice aOF py cOF) := keepC hbb kOF
      replace OOF : Hid (Own y176 w.heap.size (.slice aOF py cOF) zy) := OOF.out.later hbb
      replace HB : Hid (Below w.heap.size w y176) := HB.out.trans (hbb.mono HB.out.size)
      clear hbb
      clear kY OY
      clear kOF OOF
      clear e4 e5 e8
      cases ft with
      | false =>
        clear HFt
        clear kX OX
        go_wp2_with fail
        refine (drawShift_c bo m d _ hm (HM.out.later HB.out HB.out.size)).mono ?_
        rintro e y177 ⟨aZ, qZ, cZ, xz, by_, rfl, hqZ, hlZ, hby, ho, hbb⟩
        have LNZ : Hid (xz.length = qZ) := hlZ
        obtain ⟨z178, hz178⟩ : ∃ x, (y177.alloc (Obj.cells #[Value.slice aZ qZ cZ] 25)) = x := ⟨_, rfl⟩
        have hnz178 : Below y177.heap.size y177 z178 := by rw [← hz178]; exact balloc _ _
        have hbz178 : Below y176.heap.size y176 z178 := hbb.trans (hnz178.mono hbb.size)
        have hszz178 : w.heap.size ≤ y177.heap.size := Nat.le_trans HB.out.size hbb.size
        have hsO : w.heap.size ≤ y176.heap.size := HB.out.size
        replace HB : Hid (Below w.heap.size w z178) := HB.out.trans (hbz178.mono HB.out.size)
        have kZ : z178.cell? ⟨y177.heap.size, 0, none⟩ = some (.slice aZ qZ cZ) := by rw [← hz178]; exact cnew _ _ _
        have OZ : Hid (Own z178 w.heap.size (.slice aZ qZ cZ) xz) := (ho.mono hsO).later hnz178
        clear hnz178 hbz178 hsO
        clear ho hbb hlZ
        obtain ⟨zh, fh, hF⟩ : ∃ z b, shiftF xz by_ = (z, b) := ⟨_, _, rfl⟩
        have HFh : Hid (shiftF xz by_ = (zh, fh)) := hF
        obtain ⟨ph, hp⟩ : ∃ p, zh.length = p := ⟨_, rfl⟩
        have HPph : Hid (zh.length = ph) := hp
        have hp6h : ph ≤ 6 := by rw [← hp]; exact shiftF_less hF
        clear hF hp
        go_wp2_with fail
        clear hz178
        refine (implShift_c aZ qZ cZ xz by_ _ LNZ.out (by omega) OZ.out.rd'.2 (by omega) zh fh ph HFh.out HPph.out).mono ?_
        rintro e y179 ⟨aH, cH, rfl, ho, hbb⟩
        obtain ⟨z180, hz180⟩ : ∃ x, (y179.alloc (Obj.cells #[Value.slice aH ph cH] 25)) = x := ⟨_, rfl⟩
        have hnz180 : Below y179.heap.size y179 z180 := by rw [← hz180]; exact balloc _ _
        have hbz180 : Below z178.heap.size z178 z180 := hbb.trans (hnz180.mono hbb.size)
        have hszz180 : w.heap.size ≤ y179.heap.size := Nat.le_trans HB.out.size hbb.size
        have hsO : w.heap.size ≤ z178.heap.size := HB.out.size
        replace kZ : z180.cell? ⟨y177.heap.size, 0, none⟩ = some (.slice aZ qZ cZ) := keepC hbz180 kZ
        replace OZ : Hid (Own z180 w.heap.size (.slice aZ qZ cZ) xz) := OZ.out.later hbz180
        replace HB : Hid (Below w.heap.size w z180) := HB.out.trans (hbz180.mono HB.out.size)
        have kH : z180.cell? ⟨y179.heap.size, 0, none⟩ = some (.slice aH ph cH) := by rw [← hz180]; exact cnew _ _ _
        have OH : Hid (Own z180 w.heap.size (.slice aH ph cH) zh) := (ho.mono hsO).later hnz180
        clear hnz180 hbz180 hsO
        clear ho hbb
        go_wp2_with fail
        clear hz180
        refine (specShift_c aZ qZ cZ xz by_ _ LNZ.out (by omega) OZ.out.rdS (by omega) zh fh ph HFh.out HPph.out).mono ?_
        rintro e y181 ⟨aSH, cSH, rfl, ho, hbb⟩
        obtain ⟨z182, hz182⟩ : ∃ x, (y181.alloc (Obj.cells #[Value.slice aSH ph cSH] 25)) = x := ⟨_, rfl⟩
        have hnz182 : Below y181.heap.size y181 z182 := by rw [← hz182]; exact balloc _ _
        have hbz182 : Below z180.heap.size z180 z182 := hbb.trans (hnz182.mono hbb.size)
        have hszz182 : w.heap.size ≤ y181.heap.size := Nat.le_trans HB.out.size hbb.size
        have hsO : w.heap.size ≤ z180.heap.size := HB.out.size
        replace kZ : z182.cell? ⟨y177.heap.size, 0, none⟩ = some (.slice aZ qZ cZ) := keepC hbz182 kZ
        replace OZ : Hid (Own z182 w.heap.size (.slice aZ qZ cZ) xz) := OZ.out.later hbz182
        replace kH : z182.cell? ⟨y179.heap.size, 0, none⟩ = some (.slice aH ph cH) := keepC hbz182 kH
        replace OH : Hid (Own z182 w.heap.size (.slice aH ph cH) zh) := OH.out.later hbz182
        replace HB : Hid (Below w.heap.size w z182) := HB.out.trans (hbz182.mono HB.out.size)
        have kSH : z182.cell? ⟨y181.heap.size, 0, none⟩ = some (.slice aSH ph cSH) := by rw [← hz182]; exact cnew _ _ _
        have OSH : Hid (Own z182 w.heap.size (.slice aSH ph cSH) zh) := (ho.mono hsO).later hnz182
        clear hnz182 hbz182 hsO
        clear ho hbb
        go_wp2_with fail
        clear hz182
        refine (drawBigOf_c bo m d _ hm (HM.out.later HB.out HB.out.size)).mono ?_
        rintro e y183 ⟨nn, rfl, hnn, hbb⟩
        replace kZ : y183.cell? ⟨y177.heap.size, 0, none⟩ = some (.slice aZ qZ cZ) := keepC hbb kZ
        replace OZ : Hid (Own y183 w.heap.size (.slice aZ qZ cZ) xz) := OZ.out.later hbb
        replace kH : y183.cell? ⟨y179.heap.size, 0, none⟩ = some (.slice aH ph cH) := keepC hbb kH
        replace OH : Hid (Own y183 w.heap.size (.slice aH ph cH) zh) := OH.out.later hbb
        replace kSH : y183.cell? ⟨y181.heap.size, 0, none⟩ = some (.slice aSH ph cSH) := keepC hbb kSH
        replace OSH : Hid (Own y183 w.heap.size (.slice aSH ph cSH) zh) := OSH.out.later hbb
        replace HB : Hid (Below w.heap.size w y183) := HB.out.trans (hbb.mono HB.out.size)
        clear hbb
        obtain ⟨zo, fo, hF⟩ : ∃ z b, ofF nn = (z, b) := ⟨_, _, rfl⟩
        have HFo : Hid (ofF nn = (zo, fo)) := hF
        obtain ⟨po, hp⟩ : ∃ p, zo.length = p := ⟨_, rfl⟩
        have HPpo : Hid (zo.length = po) := hp
        have hp6o : po ≤ 6 := by rw [← hp]; exact ofF_short hF
        clear hF hp
        have e6 : (fh != fh) = false := by simp
        have e7 : (fo != fo) = false := by simp
        go_wp2_with fail
        refine (implOf_c nn _ (by omega) zo fo po HFo.out HPpo.out).mono ?_
        rintro e y184 ⟨aO1, cO1, rfl, ho, hbb⟩
        obtain ⟨z185, hz185⟩ : ∃ x, (y184.alloc (Obj.cells #[Value.slice aO1 po cO1] 25)) = x := ⟨_, rfl⟩
        have hnz185 : Below y184.heap.size y184 z185 := by rw [← hz185]; exact balloc _ _
        have hbz185 : Below y183.heap.size y183 z185 := hbb.trans (hnz185.mono hbb.size)
        have hszz185 : w.heap.size ≤ y184.heap.size := Nat.le_trans HB.out.size hbb.size
        have hsO : w.heap.size ≤ y183.heap.size := HB.out.size
        replace kZ : z185.cell? ⟨y177.heap.size, 0, none⟩ = some (.slice aZ qZ cZ) := keepC hbz185 kZ
        replace OZ : Hid (Own z185 w.heap.size (.slice aZ qZ cZ) xz) := OZ.out.later hbz185
        replace kH : z185.cell? ⟨y179.heap.size, 0, none⟩ = some (.slice aH ph cH) := keepC hbz185 kH
        replace OH : Hid (Own z185 w.heap.size (.slice aH ph cH) zh) := OH.out.later hbz185
        replace kSH : z185.cell? ⟨y181.heap.size, 0, none⟩ = some (.slice aSH ph cSH) := keepC hbz185 kSH
        replace OSH : Hid (Own z185 w.heap.size (.slice aSH ph cSH) zh) := OSH.out.later hbz185
        replace HB : Hid (Below w.heap.size w z185) := HB.out.trans (hbz185.mono HB.out.size)
        have kO1 : z185.cell? ⟨y184.heap.size, 0, none⟩ = some (.slice aO1 po cO1) := by rw [← hz185]; exact cnew _ _ _
        have OO1 : Hid (Own z185 w.heap.size (.slice aO1 po cO1) zo) := (ho.mono hsO).later hnz185
        clear hnz185 hbz185 hsO
        clear ho hbb
        go_wp2_with fail
        clear hz185
        refine (specOf_c nn _ (by omega) zo fo po HFo.out HPpo.out).mono ?_
        rintro e y186 ⟨aO2, cO2, rfl, ho, hbb⟩
        obtain ⟨z187, hz187⟩ : ∃ x, (y186.alloc (Obj.cells #[Value.slice aO2 po cO2] 25)) = x := ⟨_, rfl⟩
        have hnz187 : Below y186.heap.size y186 z187 := by rw [← hz187]; exact balloc _ _
        have hbz187 : Below z185.heap.size z185 z187 := hbb.trans (hnz187.mono hbb.size)
        have hszz187 : w.heap.size ≤ y186.heap.size := Nat.le_trans HB.out.size hbb.size
        have hsO : w.heap.size ≤ z185.heap.size := HB.out.size
        replace kZ : z187.cell? ⟨y177.heap.size, 0, none⟩ = some (.slice aZ qZ cZ) := keepC hbz187 kZ
        replace OZ : Hid (Own z187 w.heap.size (.slice aZ qZ cZ) xz) := OZ.out.later hbz187
        replace kH : z187.cell? ⟨y179.heap.size, 0, none⟩ = some (.slice aH ph cH) := keepC hbz187 kH
        replace OH : Hid (Own z187 w.heap.size (.slice aH ph cH) zh) := OH.out.later hbz187
        replace kSH : z187.cell? ⟨y181.heap.size, 0, none⟩ = some (.slice aSH ph cSH) := keepC hbz187 kSH
        replace OSH : Hid (Own z187 w.heap.size (.slice aSH ph cSH) zh) := OSH.out.later hbz187
        replace kO1 : z187.cell? ⟨y184.heap.size, 0, none⟩ = some (.slice aO1 po cO1) := keepC hbz187 kO1
        replace OO1 : Hid (Own z187 w.heap.size (.slice aO1 po cO1) zo) := OO1.out.later hbz187
        replace HB : Hid (Below w.heap.size w z187) := HB.out.trans (hbz187.mono HB.out.size)
        have kO2 : z187.cell? ⟨y186.heap.size, 0, none⟩ = some (.slice aO2 po cO2) := by rw [← hz187]; exact cnew _ _ _
        have OO2 : Hid (Own z187 w.heap.size (.slice aO2 po cO2) zo) := (ho.mono hsO).later hnz187
        clear hnz187 hbz187 hsO
        clear ho hbb
        go_wp2_with fail
        clear hz187
        refine (sameBig_t _ HPph.out (by omega) OH.out.rd'.2 OSH.out.rd'.2).mono ?_
        rintro e y188 ⟨rfl, hbb⟩
        replace kZ : y188.cell? ⟨y177.heap.size, 0, none⟩ = some (.slice aZ qZ cZ) := keepC hbb kZ
        replace OZ : Hid (Own y188 w.heap.size (.slice aZ qZ cZ) xz) := OZ.out.later hbb
        replace kH : y188.cell? ⟨y179.heap.size, 0, none⟩ = some (.slice aH ph cH) := keepC hbb kH
        replace OH : Hid (Own y188 w.heap.size (.slice aH ph cH) zh) := OH.out.later hbb
        replace kSH : y188.cell? ⟨y181.heap.size, 0, none⟩ = some (.slice aSH ph cSH) := keepC hbb kSH
        replace OSH : Hid (Own y188 w.heap.size (.slice aSH ph cSH) zh) := OSH.out.later hbb
        replace kO1 : y188.cell? ⟨y184.heap.size, 0, none⟩ = some (.slice aO1 po cO1) := keepC hbb kO1
        replace OO1 : Hid (Own y188 w.heap.size (.slice aO1 po cO1) zo) := OO1.out.later hbb
        replace kO2 : y188.cell? ⟨y186.heap.size, 0, none⟩ = some (.slice aO2 po cO2) := keepC hbb kO2
        replace OO2 : Hid (Own y188 w.heap.size (.slice aO2 po cO2) zo) := OO2.out.later hbb
        replace HB : Hid (Below w.heap.size w y188) := HB.out.trans (hbb.mono HB.out.size)
        clear hbb
        clear kSH OSH
        go_wp2_with fail
        refine (sameBig_t _ HPpo.out (by omega) OO1.out.rd'.2 OO2.out.rd'.2).mono ?_
        rintro e y189 ⟨rfl, hbb⟩
        replace kZ : y189.cell? ⟨y177.heap.size, 0, none⟩ = some (.slice aZ qZ cZ) := keepC hbb kZ
        replace OZ : Hid (Own y189 w.heap.size (.slice aZ qZ cZ) xz) := OZ.out.later hbb
        replace kH : y189.cell? ⟨y179.heap.size, 0, none⟩ = some (.slice aH ph cH) := keepC hbb kH
        replace OH : Hid (Own y189 w.heap.size (.slice aH ph cH) zh) := OH.out.later hbb
        replace kO1 : y189.cell? ⟨y184.heap.size, 0, none⟩ = some (.slice aO1 po cO1) := keepC hbb kO1
        replace OO1 : Hid (Own y189 w.heap.size (.slice aO1 po cO1) zo) := OO1.out.later hbb
        replace kO2 : y189.cell? ⟨y186.heap.size, 0, none⟩ = some (.slice aO2 po cO2) := keepC hbb kO2
        replace OO2 : Hid (Own y189 w.heap.size (.slice aO2 po cO2) zo) := OO2.out.later hbb
        replace HB : Hid (Below w.heap.size w y189) := HB.out.trans (hbb.mono HB.out.size)
        clear hbb
        clear kO1 OO1
        clear kO2 OO2
        cases fh with
        | false =>
          go_wp2
          go_ret
          exact ⟨rfl, HB.out⟩
        | true =>
          by_cases hb0 : 0 ≤ by_
          · have HS : Hid (shiftF zh (-by_) = (xz, true)) := shift_back HFh.out hb0
            go_wp2_with fail
            refine (implShift_c aH ph cH zh (-by_) _ HPph.out (by omega) OH.out.rd'.2 (by omega) xz true qZ HS.out LNZ.out).mono ?_
            rintro e y190 ⟨aBK, cBK, rfl, ho, hbb⟩
            obtain ⟨z191, hz191⟩ : ∃ x, (y190.alloc (Obj.cells #[Value.slice aBK qZ cBK] 25)) = x := ⟨_, rfl⟩
            have hnz191 : Below y190.heap.size y190 z191 := by rw [← hz191]; exact balloc _ _
            have hbz191 : Below y189.heap.size y189 z191 := hbb.trans (hnz191.mono hbb.size)
            have hszz191 : w.heap.size ≤ y190.heap.size := Nat.le_trans HB.out.size hbb.size
            have hsO : w.heap.size ≤ y189.heap.size := HB.out.size
            replace kZ : z191.cell? ⟨y177.heap.size, 0, none⟩ = some (.slice aZ qZ cZ) := keepC hbz191 kZ
            replace OZ : Hid (Own z191 w.heap.size (.slice aZ qZ cZ) xz) := OZ.out.later hbz191
            replace kH : z191.cell? ⟨y179.heap.size, 0, none⟩ = some (.slice aH ph cH) := keepC hbz191 kH
            replace OH : Hid (Own z191 w.heap.size (.slice aH ph cH) zh) := OH.out.later hbz191
            replace HB : Hid (Below w.heap.size w z191) := HB.out.trans (hbz191.mono HB.out.size)
            have kBK : z191.cell? ⟨y190.heap.size, 0, none⟩ = some (.slice aBK qZ cBK) := by rw [← hz191]; exact cnew _ _ _
            have OBK : Hid (Own z191 w.heap.size (.slice aBK qZ cBK) xz) := (ho.mono hsO).later hnz191
            clear hnz191 hbz191 hsO
            clear ho hbb
            go_wp2_with fail
            clear hz191
            refine (sameBig_t _ LNZ.out (by omega) OBK.out.rd'.2 OZ.out.rd'.2).mono ?_
            rintro e y192 ⟨rfl, hbb⟩
            replace kZ : y192.cell? ⟨y177.heap.size, 0, none⟩ = some (.slice aZ qZ cZ) := keepC hbb kZ
            replace OZ : Hid (Own y192 w.heap.size (.slice aZ qZ cZ) xz) := OZ.out.later hbb
            replace kH : y192.cell? ⟨y179.heap.size, 0, none⟩ = some (.slice aH ph cH) := keepC hbb kH
            replace OH : Hid (Own y192 w.heap.size (.slice aH ph cH) zh) := OH.out.later hbb
            replace kBK : y192.cell? ⟨y190.heap.size, 0, none⟩ = some (.slice aBK qZ cBK) := keepC hbb kBK
            replace OBK : Hid (Own y192 w.heap.size (.slice aBK qZ cBK) xz) := OBK.out.later hbb
            replace HB : Hid (Below w.heap.size w y192) := HB.out.trans (hbb.mono HB.out.size)
            clear hbb
            go_wp2
            go_ret
            exact ⟨rfl, HB.out⟩
          · go_wp2
            go_ret
            exact ⟨rfl, HB.out⟩
      | true =>
        have HBk : Hid (digF (byts St) = (xx, true)) := digits_back HFt.out
        clear HFt
        go_wp2_with fail
        refine (implDec_c St _ (by omega) xx true qX HBk.out LNX.out).mono ?_
        rintro e y193 ⟨aBA, cBA, rfl, ho, hbb⟩
        obtain ⟨z194, hz194⟩ : ∃ x, (y193.alloc (Obj.cells #[Value.slice aBA qX cBA] 25)) = x := ⟨_, rfl⟩
        have hnz194 : Below y193.heap.size y193 z194 := by rw [← hz194]; exact balloc _ _
        have hbz194 : Below y176.heap.size y176 z194 := hbb.trans (hnz194.mono hbb.size)
        have hszz194 : w.heap.size ≤ y193.heap.size := Nat.le_trans HB.out.size hbb.size
        have hsO : w.heap.size ≤ y176.heap.size := HB.out.size
        replace kX : z194.cell? ⟨y167.heap.size, 0, none⟩ = some (.slice aX qX cX) := keepC hbz194 kX
        replace OX : Hid (Own z194 w.heap.size (.slice aX qX cX) xx) := OX.out.later hbz194
        replace HB : Hid (Below w.heap.size w z194) := HB.out.trans (hbz194.mono HB.out.size)
        have kBA : z194.cell? ⟨y193.heap.size, 0, none⟩ = some (.slice aBA qX cBA) := by rw [← hz194]; exact cnew _ _ _
        have OBA : Hid (Own z194 w.heap.size (.slice aBA qX cBA) xx) := (ho.mono hsO).later hnz194
        clear hnz194 hbz194 hsO
        clear ho hbb
        go_wp2_with fail
        clear hz194
        refine (sameBig_t _ LNX.out (by omega) OBA.out.rd'.2 OX.out.rd'.2).mono ?_
        rintro e y195 ⟨rfl, hbb⟩
        replace kX : y195.cell? ⟨y167.heap.size, 0, none⟩ = some (.slice aX qX cX) := keepC hbb kX
        replace OX : Hid (Own y195 w.heap.size (.slice aX qX cX) xx) := OX.out.later hbb
        replace kBA : y195.cell? ⟨y193.heap.size, 0, none⟩ = some (.slice aBA qX cBA) := keepC hbb kBA
        replace OBA : Hid (Own y195 w.heap.size (.slice aBA qX cBA) xx) := OBA.out.later hbb
        replace HB : Hid (Below w.heap.size w y195) := HB.out.trans (hbb.mono HB.out.size)
        clear hbb
        clear kBA OBA
        clear kX OX
        go_wp2_with fail
        refine (drawShift_c bo m d _ hm (HM.out.later HB.out HB.out.size)).mono ?_
        rintro e y196 ⟨aZ, qZ, cZ, xz, by_, rfl, hqZ, hlZ, hby, ho, hbb⟩
        have LNZ : Hid (xz.length = qZ) := hlZ
        obtain ⟨z197, hz197⟩ : ∃ x, (y196.alloc (Obj.cells #[Value.slice aZ qZ cZ] 25)) = x := ⟨_, rfl⟩
        have hnz197 : Below y196.heap.size y196 z197 := by rw [← hz197]; exact balloc _ _
        have hbz197 : Below y195.heap.size y195 z197 := hbb.trans (hnz197.mono hbb.size)
        have hszz197 : w.heap.size ≤ y196.heap.size := Nat.le_trans HB.out.size hbb.size
        have hsO : w.heap.size ≤ y195.heap.size := HB.out.size
        replace HB : Hid (Below w.heap.size w z197) := HB.out.trans (hbz197.mono HB.out.size)
        have kZ : z197.cell? ⟨y196.heap.size, 0, none⟩ = some (.slice aZ qZ cZ) := by rw [← hz197]; exact cnew _ _ _
        have OZ : Hid (Own z197 w.heap.size (.slice aZ qZ cZ) xz) := (ho.mono hsO).later hnz197
        clear hnz197 hbz197 hsO
        clear ho hbb hlZ
        obtain ⟨zh, fh, hF⟩ : ∃ z b, shiftF xz by_ = (z, b) := ⟨_, _, rfl⟩
        have HFh : Hid (shiftF xz by_ = (zh, fh)) := hF
        obtain ⟨ph, hp⟩ : ∃ p, zh.length = p := ⟨_, rfl⟩
        have HPph : Hid (zh.length = ph) := hp
        have hp6h : ph ≤ 6 := by rw [← hp]; exact shiftF_less hF
        clear hF hp
        go_wp2_with fail
        clear hz197
        refine (implShift_c aZ qZ cZ xz by_ _ LNZ.out (by omega) OZ.out.rd'.2 (by omega) zh fh ph HFh.out HPph.out).mono ?_
        rintro e y198 ⟨aH, cH, rfl, ho, hbb⟩
        obtain ⟨z199, hz199⟩ : ∃ x, (y198.alloc (Obj.cells #[Value.slice aH ph cH] 25)) = x := ⟨_, rfl⟩
        have hnz199 : Below y198.heap.size y198 z199 := by rw [← hz199]; exact balloc _ _
        have hbz199 : Below z197.heap.size z197 z199 := hbb.trans (hnz199.mono hbb.size)
        have hszz199 : w.heap.size ≤ y198.heap.size := Nat.le_trans HB.out.size hbb.size
        have hsO : w.heap.size ≤ z197.heap.size := HB.out.size
        replace kZ : z199.cell? ⟨y196.heap.size, 0, none⟩ = some (.slice aZ qZ cZ) := keepC hbz199 kZ
        replace OZ : Hid (Own z199 w.heap.size (.slice aZ qZ cZ) xz) := OZ.out.later hbz199
        replace HB : Hid (Below w.heap.size w z199) := HB.out.trans (hbz199.mono HB.out.size)
        have kH : z199.cell? ⟨y198.heap.size, 0, none⟩ = some (.slice aH ph cH) := by rw [← hz199]; exact cnew _ _ _
        have OH : Hid (Own z199 w.heap.size (.slice aH ph cH) zh) := (ho.mono hsO).later hnz199
        clear hnz199 hbz199 hsO
        clear ho hbb
        go_wp2_with fail
        clear hz199
        refine (specShift_c aZ qZ cZ xz by_ _ LNZ.out (by omega) OZ.out.rdS (by omega) zh fh ph HFh.out HPph.out).mono ?_
        rintro e y200 ⟨aSH, cSH, rfl, ho, hbb⟩
        obtain ⟨z201, hz201⟩ : ∃ x, (y200.alloc (Obj.cells #[Value.slice aSH ph cSH] 25)) = x := ⟨_, rfl⟩
        have hnz201 : Below y200.heap.size y200 z201 := by rw [← hz201]; exact balloc _ _
        have hbz201 : Below z199.heap.size z199 z201 := hbb.trans (hnz201.mono hbb.size)
        have hszz201 : w.heap.size ≤ y200.heap.size := Nat.le_trans HB.out.size hbb.size
        have hsO : w.heap.size ≤ z199.heap.size := HB.out.size
        replace kZ : z201.cell? ⟨y196.heap.size, 0, none⟩ = some (.slice aZ qZ cZ) := keepC hbz201 kZ
        replace OZ : Hid (Own z201 w.heap.size (.slice aZ qZ cZ) xz) := OZ.out.later hbz201
        replace kH : z201.cell? ⟨y198.heap.size, 0, none⟩ = some (.slice aH ph cH) := keepC hbz201 kH
        replace OH : Hid (Own z201 w.heap.size (.slice aH ph cH) zh) := OH.out.later hbz201
        replace HB : Hid (Below w.heap.size w z201) := HB.out.trans (hbz201.mono HB.out.size)
        have kSH : z201.cell? ⟨y200.heap.size, 0, none⟩ = some (.slice aSH ph cSH) := by rw [← hz201]; exact cnew _ _ _
        have OSH : Hid (Own z201 w.heap.size (.slice aSH ph cSH) zh) := (ho.mono hsO).later hnz201
        clear hnz201 hbz201 hsO
        clear ho hbb
        go_wp2_with fail
        clear hz201
        refine (drawBigOf_c bo m d _ hm (HM.out.later HB.out HB.out.size)).mono ?_
        rintro e y202 ⟨nn, rfl, hnn, hbb⟩
        replace kZ : y202.cell? ⟨y196.heap.size, 0, none⟩ = some (.slice aZ qZ cZ) := keepC hbb kZ
        replace OZ : Hid (Own y202 w.heap.size (.slice aZ qZ cZ) xz) := OZ.out.later hbb
        replace kH : y202.cell? ⟨y198.heap.size, 0, none⟩ = some (.slice aH ph cH) := keepC hbb kH
        replace OH : Hid (Own y202 w.heap.size (.slice aH ph cH) zh) := OH.out.later hbb
        replace kSH : y202.cell? ⟨y200.heap.size, 0, none⟩ = some (.slice aSH ph cSH) := keepC hbb kSH
        replace OSH : Hid (Own y202 w.heap.size (.slice aSH ph cSH) zh) := OSH.out.later hbb
        replace HB : Hid (Below w.heap.size w y202) := HB.out.trans (hbb.mono HB.out.size)
        clear hbb
        obtain ⟨zo, fo, hF⟩ : ∃ z b, ofF nn = (z, b) := ⟨_, _, rfl⟩
        have HFo : Hid (ofF nn = (zo, fo)) := hF
        obtain ⟨po, hp⟩ : ∃ p, zo.length = p := ⟨_, rfl⟩
        have HPpo : Hid (zo.length = po) := hp
        have hp6o : po ≤ 6 := by rw [← hp]; exact ofF_short hF
        clear hF hp
        have e6 : (fh != fh) = false := by simp
        have e7 : (fo != fo) = false := by simp
        go_wp2_with fail
        refine (implOf_c nn _ (by omega) zo fo po HFo.out HPpo.out).mono ?_
        rintro e y203 ⟨aO1, cO1, rfl, ho, hbb⟩
        obtain ⟨z204, hz204⟩ : ∃ x, (y203.alloc (Obj.cells #[Value.slice aO1 po cO1] 25)) = x := ⟨_, rfl⟩
        have hnz204 : Below y203.heap.size y203 z204 := by rw [← hz204]; exact balloc _ _
        have hbz204 : Below y202.heap.size y202 z204 := hbb.trans (hnz204.mono hbb.size)
        have hszz204 : w.heap.size ≤ y203.heap.size := Nat.le_trans HB.out.size hbb.size
        have hsO : w.heap.size ≤ y202.heap.size := HB.out.size
        replace kZ : z204.cell? ⟨y196.heap.size, 0, none⟩ = some (.slice aZ qZ cZ) := keepC hbz204 kZ
        replace OZ : Hid (Own z204 w.heap.size (.slice aZ qZ cZ) xz) := OZ.out.later hbz204
        replace kH : z204.cell? ⟨y198.heap.size, 0, none⟩ = some (.slice aH ph cH) := keepC hbz204 kH
        replace OH : Hid (Own z204 w.heap.size (.slice aH ph cH) zh) := OH.out.later hbz204
        replace kSH : z204.cell? ⟨y200.heap.size, 0, none⟩ = some (.slice aSH ph cSH) := keepC hbz204 kSH
        replace OSH : Hid (Own z204 w.heap.size (.slice aSH ph cSH) zh) := OSH.out.later hbz204
        replace HB : Hid (Below w.heap.size w z204) := HB.out.trans (hbz204.mono HB.out.size)
        have kO1 : z204.cell? ⟨y203.heap.size, 0, none⟩ = some (.slice aO1 po cO1) := by rw [← hz204]; exact cnew _ _ _
        have OO1 : Hid (Own z204 w.heap.size (.slice aO1 po cO1) zo) := (ho.mono hsO).later hnz204
        clear hnz204 hbz204 hsO
        clear ho hbb
        go_wp2_with fail
        clear hz204
        refine (specOf_c nn _ (by omega) zo fo po HFo.out HPpo.out).mono ?_
        rintro e y205 ⟨aO2, cO2, rfl, ho, hbb⟩
        obtain ⟨z206, hz206⟩ : ∃ x, (y205.alloc (Obj.cells #[Value.slice aO2 po cO2] 25)) = x := ⟨_, rfl⟩
        have hnz206 : Below y205.heap.size y205 z206 := by rw [← hz206]; exact balloc _ _
        have hbz206 : Below z204.heap.size z204 z206 := hbb.trans (hnz206.mono hbb.size)
        have hszz206 : w.heap.size ≤ y205.heap.size := Nat.le_trans HB.out.size hbb.size
        have hsO : w.heap.size ≤ z204.heap.size := HB.out.size
        replace kZ : z206.cell? ⟨y196.heap.size, 0, none⟩ = some (.slice aZ qZ cZ) := keepC hbz206 kZ
        replace OZ : Hid (Own z206 w.heap.size (.slice aZ qZ cZ) xz) := OZ.out.later hbz206
        replace kH : z206.cell? ⟨y198.heap.size, 0, none⟩ = some (.slice aH ph cH) := keepC hbz206 kH
        replace OH : Hid (Own z206 w.heap.size (.slice aH ph cH) zh) := OH.out.later hbz206
        replace kSH : z206.cell? ⟨y200.heap.size, 0, none⟩ = some (.slice aSH ph cSH) := keepC hbz206 kSH
        replace OSH : Hid (Own z206 w.heap.size (.slice aSH ph cSH) zh) := OSH.out.later hbz206
        replace kO1 : z206.cell? ⟨y203.heap.size, 0, none⟩ = some (.slice aO1 po cO1) := keepC hbz206 kO1
        replace OO1 : Hid (Own z206 w.heap.size (.slice aO1 po cO1) zo) := OO1.out.later hbz206
        replace HB : Hid (Below w.heap.size w z206) := HB.out.trans (hbz206.mono HB.out.size)
        have kO2 : z206.cell? ⟨y205.heap.size, 0, none⟩ = some (.slice aO2 po cO2) := by rw [← hz206]; exact cnew _ _ _
        have OO2 : Hid (Own z206 w.heap.size (.slice aO2 po cO2) zo) := (ho.mono hsO).later hnz206
        clear hnz206 hbz206 hsO
        clear ho hbb
        go_wp2_with fail
        clear hz206
        refine (sameBig_t _ HPph.out (by omega) OH.out.rd'.2 OSH.out.rd'.2).mono ?_
        rintro e y207 ⟨rfl, hbb⟩
        replace kZ : y207.cell? ⟨y196.heap.size, 0, none⟩ = some (.slice aZ qZ cZ) := keepC hbb kZ
        replace OZ : Hid (Own y207 w.heap.size (.slice aZ qZ cZ) xz) := OZ.out.later hbb
        replace kH : y207.cell? ⟨y198.heap.size, 0, none⟩ = some (.slice aH ph cH) := keepC hbb kH
        replace OH : Hid (Own y207 w.heap.size (.slice aH ph cH) zh) := OH.out.later hbb
        replace kSH : y207.cell? ⟨y200.heap.size, 0, none⟩ = some (.slice aSH ph cSH) := keepC hbb kSH
        replace OSH : Hid (Own y207 w.heap.size (.slice aSH ph cSH) zh) := OSH.out.later hbb
        replace kO1 : y207.cell? ⟨y203.heap.size, 0, none⟩ = some (.slice aO1 po cO1) := keepC hbb kO1
        replace OO1 : Hid (Own y207 w.heap.size (.slice aO1 po cO1) zo) := OO1.out.later hbb
        replace kO2 : y207.cell? ⟨y205.heap.size, 0, none⟩ = some (.slice aO2 po cO2) := keepC hbb kO2
        replace OO2 : Hid (Own y207 w.heap.size (.slice aO2 po cO2) zo) := OO2.out.later hbb
        replace HB : Hid (Below w.heap.size w y207) := HB.out.trans (hbb.mono HB.out.size)
        clear hbb
        clear kSH OSH
        go_wp2_with fail
        refine (sameBig_t _ HPpo.out (by omega) OO1.out.rd'.2 OO2.out.rd'.2).mono ?_
        rintro e y208 ⟨rfl, hbb⟩
        replace kZ : y208.cell? ⟨y196.heap.size, 0, none⟩ = some (.slice aZ qZ cZ) := keepC hbb kZ
        replace OZ : Hid (Own y208 w.heap.size (.slice aZ qZ cZ) xz) := OZ.out.later hbb
        replace kH : y208.cell? ⟨y198.heap.size, 0, none⟩ = some (.slice aH ph cH) := keepC hbb kH
        replace OH : Hid (Own y208 w.heap.size (.slice aH ph cH) zh) := OH.out.later hbb
        replace kO1 : y208.cell? ⟨y203.heap.size, 0, none⟩ = some (.slice aO1 po cO1) := keepC hbb kO1
        replace OO1 : Hid (Own y208 w.heap.size (.slice aO1 po cO1) zo) := OO1.out.later hbb
        replace kO2 : y208.cell? ⟨y205.heap.size, 0, none⟩ = some (.slice aO2 po cO2) := keepC hbb kO2
        replace OO2 : Hid (Own y208 w.heap.size (.slice aO2 po cO2) zo) := OO2.out.later hbb
        replace HB : Hid (Below w.heap.size w y208) := HB.out.trans (hbb.mono HB.out.size)
        clear hbb
        clear kO1 OO1
        clear kO2 OO2
        cases fh with
        | false =>
          go_wp2
          go_ret
          exact ⟨rfl, HB.out⟩
        | true =>
          by_cases hb0 : 0 ≤ by_
          · have HS : Hid (shiftF zh (-by_) = (xz, true)) := shift_back HFh.out hb0
            go_wp2_with fail
            refine (implShift_c aH ph cH zh (-by_) _ HPph.out (by omega) OH.out.rd'.2 (by omega) xz true qZ HS.out LNZ.out).mono ?_
            rintro e y209 ⟨aBK, cBK, rfl, ho, hbb⟩
            obtain ⟨z210, hz210⟩ : ∃ x, (y209.alloc (Obj.cells #[Value.slice aBK qZ cBK] 25)) = x := ⟨_, rfl⟩
            have hnz210 : Below y209.heap.size y209 z210 := by rw [← hz210]; exact balloc _ _
            have hbz210 : Below y208.heap.size y208 z210 := hbb.trans (hnz210.mono hbb.size)
            have hszz210 : w.heap.size ≤ y209.heap.size := Nat.le_trans HB.out.size hbb.size
            have hsO : w.heap.size ≤ y208.heap.size := HB.out.size
            replace kZ : z210.cell? ⟨y196.heap.size, 0, none⟩ = some (.slice aZ qZ cZ) := keepC hbz210 kZ
            replace OZ : Hid (Own z210 w.heap.size (.slice aZ qZ cZ) xz) := OZ.out.later hbz210
            replace kH : z210.cell? ⟨y198.heap.size, 0, none⟩ = some (.slice aH ph cH) := keepC hbz210 kH
            replace OH : Hid (Own z210 w.heap.size (.slice aH ph cH) zh) := OH.out.later hbz210
            replace HB : Hid (Below w.heap.size w z210) := HB.out.trans (hbz210.mono HB.out.size)
            have kBK : z210.cell? ⟨y209.heap.size, 0, none⟩ = some (.slice aBK qZ cBK) := by rw [← hz210]; exact cnew _ _ _
            have OBK : Hid (Own z210 w.heap.size (.slice aBK qZ cBK) xz) := (ho.mono hsO).later hnz210
            clear hnz210 hbz210 hsO
            clear ho hbb
            go_wp2_with fail
            clear hz210
            refine (sameBig_t _ LNZ.out (by omega) OBK.out.rd'.2 OZ.out.rd'.2).mono ?_
            rintro e y211 ⟨rfl, hbb⟩
            replace kZ : y211.cell? ⟨y196.heap.size, 0, none⟩ = some (.slice aZ qZ cZ) := keepC hbb kZ
            replace OZ : Hid (Own y211 w.heap.size (.slice aZ qZ cZ) xz) := OZ.out.later hbb
            replace kH : y211.cell? ⟨y198.heap.size, 0, none⟩ = some (.slice aH ph cH) := keepC hbb kH
            replace OH : Hid (Own y211 w.heap.size (.slice aH ph cH) zh) := OH.out.later hbb
            replace kBK : y211.cell? ⟨y209.heap.size, 0, none⟩ = some (.slice aBK qZ cBK) := keepC hbb kBK
            replace OBK : Hid (Own y211 w.heap.size (.slice aBK qZ cBK) xz) := OBK.out.later hbb
            replace HB : Hid (Below w.heap.size w y211) := HB.out.trans (hbb.mono HB.out.size)
            clear hbb
            go_wp2
            go_ret
            exact ⟨rfl, HB.out⟩
          · go_wp2
            go_ret
            exact ⟨rfl, HB.out⟩

end Go.Proofs.YtaedplfihjfchaaDoor
