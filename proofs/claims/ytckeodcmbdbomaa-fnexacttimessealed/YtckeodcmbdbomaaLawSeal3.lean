/- The law on TimesSealed, walked: true at every argument, nothing turned. -/
import Derived.Test.YtckeodcmbdbomaaLawSeal2
import Derived.Deep.RegionHeld3
import Derived.Deep.DrawnRows
import Derived.Deep.DeepCutAuto
import Derived.Deep.Light
namespace Go.Proofs.Ytckeodcmbdbomaa
set_option linter.unusedVariables false
set_option linter.unusedSimpArgs false
open Go.RowKit
attribute [local go_sem ↓] Go.wp_at_zero Go.wp_at_succ

theorem specTimesSealed_d {w W : World} {x y p q r s : Int} {b : Bool} (h : ∀ wx, Calls Try.prog 18 #[.agg #[.int .i64 x, .int .i64 y], .agg #[.int .i64 p, .int .i64 q]] wx fun e w' => e = .returned (.tuple #[.agg #[.int .i64 r, .int .i64 s], .bool b]) ∧ Below wx.heap.size wx w') (hB : Below w.heap.size w W) : Calls Try.prog 18 #[.agg #[.int .i64 x, .int .i64 y], .agg #[.int .i64 p, .int .i64 q]] W fun e w' => e = .returned (.tuple #[.agg #[.int .i64 r, .int .i64 s], .bool b]) ∧ Hid (Below w.heap.size w w') ∧ Below W.heap.size W w' :=
  (h W).mono fun e w' ⟨he, hb⟩ => ⟨he, hB.trans (hb.mono hB.size), hb⟩

theorem implTimesSealed_d {w W : World} {x y p q r s : Int} {b : Bool} (h : ∀ wx, Calls Try.prog 19 #[.agg #[.int .i64 x, .int .i64 y], .agg #[.int .i64 p, .int .i64 q]] wx fun e w' => e = .returned (.tuple #[.agg #[.int .i64 r, .int .i64 s], .bool b]) ∧ Below wx.heap.size wx w') (hB : Below w.heap.size w W) : Calls Try.prog 19 #[.agg #[.int .i64 x, .int .i64 y], .agg #[.int .i64 p, .int .i64 q]] W fun e w' => e = .returned (.tuple #[.agg #[.int .i64 r, .int .i64 s], .bool b]) ∧ Hid (Below w.heap.size w w') ∧ Below W.heap.size W w' :=
  (h W).mono fun e w' ⟨he, hb⟩ => ⟨he, hB.trans (hb.mono hB.size), hb⟩

set_option maxHeartbeats 8000000 in
set_option maxRecDepth 1000000 in
theorem lawTimesSealed_c (x y p q : Int) (w : World) : Calls Try.prog 7 #[.agg #[.int .i64 x, .int .i64 y], .agg #[.int .i64 p, .int .i64 q]] w fun e w' => e = .returned (.bool true) ∧ Below w.heap.size w w' := by
  have hs := fun wx => specTimesSealed_c x y p q wx
  have hi := fun wx => implTimesSealed_c x y p q wx
  generalize (if timesB x y p q = true then x * p % 2999 else 0) = r at hs hi
  generalize (if timesB x y p q = true then y * q % 2999 else 0) = s at hs hi
  generalize timesB x y p q = b at hs hi
  have HS : Hid (∀ wx, Calls Try.prog 18 #[.agg #[.int .i64 x, .int .i64 y], .agg #[.int .i64 p, .int .i64 q]] wx fun e w' => e = .returned (.tuple #[.agg #[.int .i64 r, .int .i64 s], .bool b]) ∧ Below wx.heap.size wx w') := hs
  have HI : Hid (∀ wx, Calls Try.prog 19 #[.agg #[.int .i64 x, .int .i64 y], .agg #[.int .i64 p, .int .i64 q]] wx fun e w' => e = .returned (.tuple #[.agg #[.int .i64 r, .int .i64 s], .bool b]) ∧ Below wx.heap.size wx w') := hi
  clear hs hi
  have e2 : (b != b) = false := by simp
  have X2 : Hid (C2 ((w.alloc (Obj.cells #[Value.int .i64 x, Value.int .i64 y] 27)).alloc (Obj.cells #[Value.int .i64 p, Value.int .i64 q] 27)) w.heap.size x y) := (c2_new _ _ _ _ _ rfl).alloc _
  have Y2 : Hid (C2 ((w.alloc (Obj.cells #[Value.int .i64 x, Value.int .i64 y] 27)).alloc (Obj.cells #[Value.int .i64 p, Value.int .i64 q] 27)) (w.heap.size + 1) p q) := c2_new _ _ _ _ _ (by simp)
  have HB2 : Hid (Below w.heap.size w ((w.alloc (Obj.cells #[Value.int .i64 x, Value.int .i64 y] 27)).alloc (Obj.cells #[Value.int .i64 p, Value.int .i64 q] 27))) := below_two _ _ _
  go_enter Try.func7, Try.ntmps7
  go_wp2_with fail
  generalize ((w.alloc (Obj.cells #[Value.int .i64 x, Value.int .i64 y] 27)).alloc (Obj.cells #[Value.int .i64 p, Value.int .i64 q] 27)) = w2 at *
  go_upto_region 1 with fail
  go_cut [5, 6] (fun ub uv wx => ∃ g : Nat, ub = .pointer (some ⟨g, 0, none⟩) ∧ uv = .bool b ∧ Hid (C2 wx g r s) ∧ Hid (w2.heap.size ≤ g) ∧ Hid (Below w2.heap.size w2 wx))
  case first =>
    have tok1 : True := trivial
    have HBs : Hid (Below w2.heap.size w2 w2) := Below.refl _ _
    have Xs : Hid (C2 w2 w.heap.size x y) := X2
    obtain ⟨Xsa, Xsb⟩ := Xs.out.cells
    have Xsl := Xs.out.lt
    have Ys : Hid (C2 w2 (w.heap.size + 1) p q) := Y2
    obtain ⟨Ysa, Ysb⟩ := Ys.out.cells
    have Ysl := Ys.out.lt
    go_region_held3 (fun w' => w'.cell? ⟨w.heap.size, 0, none⟩ = some (.int .i64 x) ∧ w'.cell? ⟨w.heap.size, 1, none⟩ = some (.int .i64 y) ∧ w'.cell? ⟨(w.heap.size + 1), 0, none⟩ = some (.int .i64 p) ∧ w'.cell? ⟨(w.heap.size + 1), 1, none⟩ = some (.int .i64 q)) (first | go_keep | exact ⟨((Xp3.out.other (by omega) _ _).other (by omega) _ _).1, ((Xp3.out.other (by omega) _ _).other (by omega) _ _).2.1, ((Yp3.out.other (by omega) _ _).other (by omega) _ _).1, ((Yp3.out.other (by omega) _ _).other (by omega) _ _).2.1⟩ | exact ⟨(Xp3.out.other (by omega) _ _).1, (Xp3.out.other (by omega) _ _).2.1, (Yp3.out.other (by omega) _ _).1, (Yp3.out.other (by omega) _ _).2.1⟩) (first | (go_at_call 16; have _t := tok1; refine (toSealed_d (w := w2) (by repeat (first | exact HBs.out | refine Below.drew ?_ | refine Below.alloc ?_ (by first | omega | (simp; omega)) _)) x y).mono ?_; rintro e wp1 ⟨rfl, HBp1, hb1⟩; clear tok1 _t; have K1 : Hid (∀ g a b, C2 _ g a b → C2 wp1 g a b) := (fun g a b h => h.keep hb1); have zp1 : w2.heap.size ≤ wp1.heap.size := HBp1.out.size; obtain ⟨hc1, hf1⟩ := bcell hb1; have zq1 := hb1.size; (try simp at hc1); (try simp at hf1); (try simp at zq1); (try (have zzw2_1 : w2.heap.size < wp1.heap.size := by omega)); skip; have Xp1 : Hid (C2 wp1 w.heap.size x y) := (by refine C2.keep ?_ hb1; repeat (first | with_reducible exact Xs.out | refine C2.drew ?_ | refine C2.alloc ?_ _)); obtain ⟨Xa1, Xb1⟩ := Xp1.out.cells; have Xl1 := Xp1.out.lt; have Yp1 : Hid (C2 wp1 (w.heap.size + 1) p q) := (by refine C2.keep ?_ hb1; repeat (first | with_reducible exact Ys.out | refine C2.drew ?_ | refine C2.alloc ?_ _)); obtain ⟨Ya1, Yb1⟩ := Yp1.out.cells; have Yl1 := Yp1.out.lt; clear hb1) | (go_at_call 16; refine (toSealed_d (w := w2) (by repeat (first | exact HBp1.out | refine Below.drew ?_ | refine Below.alloc ?_ (by first | omega | (simp; omega)) _)) p q).mono ?_; rintro e wp2 ⟨rfl, HBp2, hb2⟩; have K2 : Hid (∀ g a b, C2 _ g a b → C2 wp2 g a b) := (fun g a b h => h.keep hb2); have zp2 : w2.heap.size ≤ wp2.heap.size := HBp2.out.size; obtain ⟨hc2, hf2⟩ := bcell hb2; have zq2 := hb2.size; (try simp at hc2); (try simp at hf2); (try simp at zq2); (try (have zzw2_2 : w2.heap.size < wp2.heap.size := by omega)); (try (have zzwp1_2 : wp1.heap.size < wp2.heap.size := by omega)); skip; have Xp2 : Hid (C2 wp2 w.heap.size x y) := (by refine C2.keep ?_ hb2; repeat (first | with_reducible exact Xp1.out | refine C2.drew ?_ | refine C2.alloc ?_ _)); obtain ⟨Xa2, Xb2⟩ := Xp2.out.cells; have Xl2 := Xp2.out.lt; have Yp2 : Hid (C2 wp2 (w.heap.size + 1) p q) := (by refine C2.keep ?_ hb2; repeat (first | with_reducible exact Yp1.out | refine C2.drew ?_ | refine C2.alloc ?_ _)); obtain ⟨Ya2, Yb2⟩ := Yp2.out.cells; have Yl2 := Yp2.out.lt; clear hb2) | (go_at_call 18; refine (specTimesSealed_d (w := w2) HS.out (by repeat (first | exact HBp2.out | refine Below.drew ?_ | refine Below.alloc ?_ (by first | omega | (simp; omega)) _))).mono ?_; rintro e wp3 ⟨rfl, HBp3, hb3⟩; have K3 : Hid (∀ g a b, C2 _ g a b → C2 wp3 g a b) := (fun g a b h => h.keep hb3); have zp3 : w2.heap.size ≤ wp3.heap.size := HBp3.out.size; obtain ⟨hc3, hf3⟩ := bcell hb3; have zq3 := hb3.size; (try simp at hc3); (try simp at hf3); (try simp at zq3); (try (have zzw2_3 : w2.heap.size < wp3.heap.size := by omega)); (try (have zzwp1_3 : wp1.heap.size < wp3.heap.size := by omega)); (try (have zzwp2_3 : wp2.heap.size < wp3.heap.size := by omega)); skip; have Xp3 : Hid (C2 wp3 w.heap.size x y) := (by refine C2.keep ?_ hb3; repeat (first | with_reducible exact Xp2.out | refine C2.drew ?_ | refine C2.alloc ?_ _)); obtain ⟨Xa3, Xb3⟩ := Xp3.out.cells; have Xl3 := Xp3.out.lt; have Yp3 : Hid (C2 wp3 (w.heap.size + 1) p q) := (by refine C2.keep ?_ hb3; repeat (first | with_reducible exact Yp2.out | refine C2.drew ?_ | refine C2.alloc ?_ _)); obtain ⟨Ya3, Yb3⟩ := Yp3.out.cells; have Yl3 := Yp3.out.lt; clear hb3))
    all_goals go_wp2_with fail
    all_goals go_meet
    all_goals go_light
    all_goals first
      | exact ⟨wp3.heap.size, rfl, rfl, (by show C2 _ _ _ _; repeat (first | with_reducible exact c2_new _ _ _ _ _ (by first | rfl | simp) | refine C2.drew ?_)), (by show _ ≤ _; omega), (by show Below _ _ _; repeat (first | with_reducible exact HBp3.out | refine Below.drew ?_ | refine Below.alloc ?_ (by first | omega | (simp; done) | (simp; omega)) _ | refine Below.setCell ?_ (by first | omega | (simp; done) | (simp; omega)) _))⟩
      | exact ⟨wp2.heap.size, rfl, rfl, (by show C2 _ _ _ _; repeat (first | with_reducible refine C2.set (K3.out _ _ _ (by repeat (first | with_reducible exact c2_new _ _ _ _ _ (by first | rfl | simp) | refine C2.drew ?_ | refine C2.alloc ?_ _))) _ _ | refine C2.drew ?_)), (by show _ ≤ _; omega), (by show Below _ _ _; repeat (first | with_reducible exact HBp3.out | refine Below.drew ?_ | refine Below.alloc ?_ (by first | omega | (simp; done) | (simp; omega)) _ | refine Below.setCell ?_ (by first | omega | (simp; done) | (simp; omega)) _))⟩
      | exact ⟨wp1.heap.size, rfl, rfl, (by show C2 _ _ _ _; repeat (first | with_reducible refine C2.set (K3.out _ _ _ (K2.out _ _ _ (by repeat (first | with_reducible exact c2_new _ _ _ _ _ (by first | rfl | simp) | refine C2.drew ?_ | refine C2.alloc ?_ _)))) _ _ | refine C2.drew ?_)), (by show _ ≤ _; omega), (by show Below _ _ _; repeat (first | with_reducible exact HBp3.out | refine Below.drew ?_ | refine Below.alloc ?_ (by first | omega | (simp; done) | (simp; omega)) _ | refine Below.setCell ?_ (by first | omega | (simp; done) | (simp; omega)) _))⟩
      | exact ⟨w2.heap.size, rfl, rfl, C2.set (K3.out _ _ _ (K2.out _ _ _ (K1.out _ _ _ (c2_new w2 0 0 _ _ rfl).drew))) _ _, (by show _ ≤ _; omega), (by show Below _ _ _; repeat (first | with_reducible exact HBp3.out | refine Below.drew ?_ | refine Below.alloc ?_ (by first | omega | (simp; done) | (simp; omega)) _ | refine Below.setCell ?_ (by first | omega | (simp; done) | (simp; omega)) _))⟩
      | exact ⟨w2.heap.size, rfl, rfl, (by show C2 _ _ _ _; repeat (first | with_reducible refine C2.set (K3.out _ _ _ (K2.out _ _ _ (K1.out _ _ _ (c2_new w2 0 0 _ _ rfl).drew))) _ _ | refine C2.drew ?_)), (by show _ ≤ _; omega), (by show Below _ _ _; repeat (first | with_reducible exact HBp3.out | refine Below.drew ?_ | refine Below.alloc ?_ (by first | omega | (simp; done) | (simp; omega)) _ | refine Below.setCell ?_ (by first | omega | (simp; done) | (simp; omega)) _))⟩
  case rest =>
    obtain ⟨g3, rfl, rfl, M3, G3, hb⟩ := hcut
    obtain ⟨w3, rfl⟩ : ∃ w3 : World, w3 = wc := ⟨_, rfl⟩
    have HB3 : Hid (Below w.heap.size w w3) := HB2.out.trans (hb.out.mono HB2.out.size)
    have X3 : Hid (C2 w3 w.heap.size x y) := X2.out.keep hb.out
    have Y3 : Hid (C2 w3 (w.heap.size + 1) p q) := Y2.out.keep hb.out
    go_upto_region 2 with fail
    go_cut [7, 8] (fun ub uv wx => ∃ g : Nat, ub = .pointer (some ⟨g, 0, none⟩) ∧ uv = .bool b ∧ Hid (C2 wx g r s) ∧ Hid (w3.heap.size ≤ g) ∧ Hid (Below w3.heap.size w3 wx))
    case first =>
      have tok1 : True := trivial
      have HBs : Hid (Below w3.heap.size w3 w3) := Below.refl _ _
      have Xs : Hid (C2 w3 w.heap.size x y) := X3
      obtain ⟨Xsa, Xsb⟩ := Xs.out.cells
      have Xsl := Xs.out.lt
      have Ys : Hid (C2 w3 (w.heap.size + 1) p q) := Y3
      obtain ⟨Ysa, Ysb⟩ := Ys.out.cells
      have Ysl := Ys.out.lt
      have Ms : Hid (C2 w3 g3 r s) := M3
      obtain ⟨Msa, Msb⟩ := Ms.out.cells
      have Msl := Ms.out.lt
      go_region_held3 (fun w' => w'.cell? ⟨w.heap.size, 0, none⟩ = some (.int .i64 x) ∧ w'.cell? ⟨w.heap.size, 1, none⟩ = some (.int .i64 y) ∧ w'.cell? ⟨(w.heap.size + 1), 0, none⟩ = some (.int .i64 p) ∧ w'.cell? ⟨(w.heap.size + 1), 1, none⟩ = some (.int .i64 q) ∧ w'.cell? ⟨g3, 0, none⟩ = some (.int .i64 r) ∧ w'.cell? ⟨g3, 1, none⟩ = some (.int .i64 s)) (first | go_keep | exact ⟨((Xp3.out.other (by omega) _ _).other (by omega) _ _).1, ((Xp3.out.other (by omega) _ _).other (by omega) _ _).2.1, ((Yp3.out.other (by omega) _ _).other (by omega) _ _).1, ((Yp3.out.other (by omega) _ _).other (by omega) _ _).2.1, ((Mp3.out.other (by omega) _ _).other (by omega) _ _).1, ((Mp3.out.other (by omega) _ _).other (by omega) _ _).2.1⟩ | exact ⟨(Xp3.out.other (by omega) _ _).1, (Xp3.out.other (by omega) _ _).2.1, (Yp3.out.other (by omega) _ _).1, (Yp3.out.other (by omega) _ _).2.1, (Mp3.out.other (by omega) _ _).1, (Mp3.out.other (by omega) _ _).2.1⟩) (first | (go_at_call 16; have _t := tok1; refine (toSealed_d (w := w3) (by repeat (first | exact HBs.out | refine Below.drew ?_ | refine Below.alloc ?_ (by first | omega | (simp; omega)) _)) x y).mono ?_; rintro e wp1 ⟨rfl, HBp1, hb1⟩; clear tok1 _t; have K1 : Hid (∀ g a b, C2 _ g a b → C2 wp1 g a b) := (fun g a b h => h.keep hb1); have zp1 : w3.heap.size ≤ wp1.heap.size := HBp1.out.size; obtain ⟨hc1, hf1⟩ := bcell hb1; have zq1 := hb1.size; (try simp at hc1); (try simp at hf1); (try simp at zq1); (try (have zzw3_1 : w3.heap.size < wp1.heap.size := by omega)); skip; have Xp1 : Hid (C2 wp1 w.heap.size x y) := (by refine C2.keep ?_ hb1; repeat (first | with_reducible exact Xs.out | refine C2.drew ?_ | refine C2.alloc ?_ _)); obtain ⟨Xa1, Xb1⟩ := Xp1.out.cells; have Xl1 := Xp1.out.lt; have Yp1 : Hid (C2 wp1 (w.heap.size + 1) p q) := (by refine C2.keep ?_ hb1; repeat (first | with_reducible exact Ys.out | refine C2.drew ?_ | refine C2.alloc ?_ _)); obtain ⟨Ya1, Yb1⟩ := Yp1.out.cells; have Yl1 := Yp1.out.lt; have Mp1 : Hid (C2 wp1 g3 r s) := (by refine C2.keep ?_ hb1; repeat (first | with_reducible exact Ms.out | refine C2.drew ?_ | refine C2.alloc ?_ _)); obtain ⟨Ma1, Mb1⟩ := Mp1.out.cells; have Ml1 := Mp1.out.lt; clear hb1) | (go_at_call 16; refine (toSealed_d (w := w3) (by repeat (first | exact HBp1.out | refine Below.drew ?_ | refine Below.alloc ?_ (by first | omega | (simp; omega)) _)) p q).mono ?_; rintro e wp2 ⟨rfl, HBp2, hb2⟩; have K2 : Hid (∀ g a b, C2 _ g a b → C2 wp2 g a b) := (fun g a b h => h.keep hb2); have zp2 : w3.heap.size ≤ wp2.heap.size := HBp2.out.size; obtain ⟨hc2, hf2⟩ := bcell hb2; have zq2 := hb2.size; (try simp at hc2); (try simp at hf2); (try simp at zq2); (try (have zzw3_2 : w3.heap.size < wp2.heap.size := by omega)); (try (have zzwp1_2 : wp1.heap.size < wp2.heap.size := by omega)); skip; have Xp2 : Hid (C2 wp2 w.heap.size x y) := (by refine C2.keep ?_ hb2; repeat (first | with_reducible exact Xp1.out | refine C2.drew ?_ | refine C2.alloc ?_ _)); obtain ⟨Xa2, Xb2⟩ := Xp2.out.cells; have Xl2 := Xp2.out.lt; have Yp2 : Hid (C2 wp2 (w.heap.size + 1) p q) := (by refine C2.keep ?_ hb2; repeat (first | with_reducible exact Yp1.out | refine C2.drew ?_ | refine C2.alloc ?_ _)); obtain ⟨Ya2, Yb2⟩ := Yp2.out.cells; have Yl2 := Yp2.out.lt; have Mp2 : Hid (C2 wp2 g3 r s) := (by refine C2.keep ?_ hb2; repeat (first | with_reducible exact Mp1.out | refine C2.drew ?_ | refine C2.alloc ?_ _)); obtain ⟨Ma2, Mb2⟩ := Mp2.out.cells; have Ml2 := Mp2.out.lt; clear hb2) | (go_at_call 19; refine (implTimesSealed_d (w := w3) HI.out (by repeat (first | exact HBp2.out | refine Below.drew ?_ | refine Below.alloc ?_ (by first | omega | (simp; omega)) _))).mono ?_; rintro e wp3 ⟨rfl, HBp3, hb3⟩; have K3 : Hid (∀ g a b, C2 _ g a b → C2 wp3 g a b) := (fun g a b h => h.keep hb3); have zp3 : w3.heap.size ≤ wp3.heap.size := HBp3.out.size; obtain ⟨hc3, hf3⟩ := bcell hb3; have zq3 := hb3.size; (try simp at hc3); (try simp at hf3); (try simp at zq3); (try (have zzw3_3 : w3.heap.size < wp3.heap.size := by omega)); (try (have zzwp1_3 : wp1.heap.size < wp3.heap.size := by omega)); (try (have zzwp2_3 : wp2.heap.size < wp3.heap.size := by omega)); skip; have Xp3 : Hid (C2 wp3 w.heap.size x y) := (by refine C2.keep ?_ hb3; repeat (first | with_reducible exact Xp2.out | refine C2.drew ?_ | refine C2.alloc ?_ _)); obtain ⟨Xa3, Xb3⟩ := Xp3.out.cells; have Xl3 := Xp3.out.lt; have Yp3 : Hid (C2 wp3 (w.heap.size + 1) p q) := (by refine C2.keep ?_ hb3; repeat (first | with_reducible exact Yp2.out | refine C2.drew ?_ | refine C2.alloc ?_ _)); obtain ⟨Ya3, Yb3⟩ := Yp3.out.cells; have Yl3 := Yp3.out.lt; have Mp3 : Hid (C2 wp3 g3 r s) := (by refine C2.keep ?_ hb3; repeat (first | with_reducible exact Mp2.out | refine C2.drew ?_ | refine C2.alloc ?_ _)); obtain ⟨Ma3, Mb3⟩ := Mp3.out.cells; have Ml3 := Mp3.out.lt; clear hb3))
      all_goals go_wp2_with fail
      all_goals go_meet
      all_goals go_light
      all_goals first
        | exact ⟨wp3.heap.size, rfl, rfl, (by show C2 _ _ _ _; repeat (first | with_reducible exact c2_new _ _ _ _ _ (by first | rfl | simp) | refine C2.drew ?_)), (by show _ ≤ _; omega), (by show Below _ _ _; repeat (first | with_reducible exact HBp3.out | refine Below.drew ?_ | refine Below.alloc ?_ (by first | omega | (simp; done) | (simp; omega)) _ | refine Below.setCell ?_ (by first | omega | (simp; done) | (simp; omega)) _))⟩
        | exact ⟨wp2.heap.size, rfl, rfl, (by show C2 _ _ _ _; repeat (first | with_reducible refine C2.set (K3.out _ _ _ (by repeat (first | with_reducible exact c2_new _ _ _ _ _ (by first | rfl | simp) | refine C2.drew ?_ | refine C2.alloc ?_ _))) _ _ | refine C2.drew ?_)), (by show _ ≤ _; omega), (by show Below _ _ _; repeat (first | with_reducible exact HBp3.out | refine Below.drew ?_ | refine Below.alloc ?_ (by first | omega | (simp; done) | (simp; omega)) _ | refine Below.setCell ?_ (by first | omega | (simp; done) | (simp; omega)) _))⟩
        | exact ⟨wp1.heap.size, rfl, rfl, (by show C2 _ _ _ _; repeat (first | with_reducible refine C2.set (K3.out _ _ _ (K2.out _ _ _ (by repeat (first | with_reducible exact c2_new _ _ _ _ _ (by first | rfl | simp) | refine C2.drew ?_ | refine C2.alloc ?_ _)))) _ _ | refine C2.drew ?_)), (by show _ ≤ _; omega), (by show Below _ _ _; repeat (first | with_reducible exact HBp3.out | refine Below.drew ?_ | refine Below.alloc ?_ (by first | omega | (simp; done) | (simp; omega)) _ | refine Below.setCell ?_ (by first | omega | (simp; done) | (simp; omega)) _))⟩
        | exact ⟨w3.heap.size, rfl, rfl, C2.set (K3.out _ _ _ (K2.out _ _ _ (K1.out _ _ _ (c2_new w3 0 0 _ _ rfl).drew))) _ _, (by show _ ≤ _; omega), (by show Below _ _ _; repeat (first | with_reducible exact HBp3.out | refine Below.drew ?_ | refine Below.alloc ?_ (by first | omega | (simp; done) | (simp; omega)) _ | refine Below.setCell ?_ (by first | omega | (simp; done) | (simp; omega)) _))⟩
        | exact ⟨w3.heap.size, rfl, rfl, (by show C2 _ _ _ _; repeat (first | with_reducible refine C2.set (K3.out _ _ _ (K2.out _ _ _ (K1.out _ _ _ (c2_new w3 0 0 _ _ rfl).drew))) _ _ | refine C2.drew ?_)), (by show _ ≤ _; omega), (by show Below _ _ _; repeat (first | with_reducible exact HBp3.out | refine Below.drew ?_ | refine Below.alloc ?_ (by first | omega | (simp; done) | (simp; omega)) _ | refine Below.setCell ?_ (by first | omega | (simp; done) | (simp; omega)) _))⟩
    case rest =>
      obtain ⟨g4, rfl, rfl, N4, G4, hb⟩ := hcut
      obtain ⟨w4, rfl⟩ : ∃ w4 : World, w4 = wc := ⟨_, rfl⟩
      have HB4 : Hid (Below w.heap.size w w4) := HB3.out.trans (hb.out.mono HB3.out.size)
      have X4 : Hid (C2 w4 w.heap.size x y) := X3.out.keep hb.out
      have Y4 : Hid (C2 w4 (w.heap.size + 1) p q) := Y3.out.keep hb.out
      have M4 : Hid (C2 w4 g3 r s) := M3.out.keep hb.out
      obtain ⟨ma, mb⟩ := M4.out.cells
      obtain ⟨na, nb⟩ := N4.out.cells
      have ml := M4.out.lt
      have nl := N4.out.lt
      go_wp2_with fail
      refine (eqSealed_c r s _).mono ?_
      rintro e w5 ⟨rfl, hb5⟩
      have HB5 : Hid (Below w.heap.size w w5) := HB4.out.trans (hb5.mono HB4.out.size)
      clear ma mb na nb ml nl
      go_wp2
      go_ret
      exact ⟨rfl, HB5.out⟩

end Go.Proofs.Ytckeodcmbdbomaa
