/- Walks: the law WalksPolygon (P5.11). -/
import Derived.Test.YtmjcdggmofohcaaOp5
import Derived.Test.YtmjcdggmofohcaaWk5
import Derived.Test.YtmjcdggmofohcaaPts
namespace Go.Proofs.Ytmjcdggmofohcaa
open Go.RowKit
namespace Wl
theorem tot_dbl (ps : List Pt) : Geo.tot Geo.fanV ps = dbl ps := by
  have key : ∀ k, (((List.range k).map fun k => (ps[k]?.getD (0, 0), ps[(k + 1) % ps.length]?.getD (0, 0))).map Geo.fanV).sum = dblTo ps k := by
    intro k
    induction k with
    | zero => rfl
    | succ k ih =>
      rw [List.range_succ, List.map_append, List.map_append, List.sum_append, ih]
      show _ + _ = dblTo ps k + cr (ptAt ps k) (ptAt ps ((k + 1) % ps.length))
      congr 1
      unfold Geo.fanV Geo.turn cr ptAt
      simp
      grind
  exact key ps.length
end Wl
set_option maxRecDepth 100000 in
set_option maxHeartbeats 8000000 in
theorem lawPol_walk (A : Option Addr) (c : Nat) (ws : List (Int × Int)) (w : World) (_hl : ws.length ≤ maxLen) (hg : Prs w w.heap.size A ws) :
    Calls Try.prog 7 #[.slice A ws.length c] w fun e w' => e = .returned (.bool true) ∧ Below w.heap.size w w' := by
  have HWK : Hid (∀ W, Calls Try.prog 12 #[] W fun e w' => e = .returned (.bool true) ∧ Below W.heap.size W w') := works5_any
  by_cases h1 : 40 < ws.length
  · have d1 : decide (40 < (ws.length : Int)) = true := decide_eq_true (by omega)
    have d2 : decide (40 < ws.length) = true := decide_eq_true h1
    clear hg _hl
    have hB := Below.refl w.heap.size w
    go_enter Try.func7, Try.ntmps7
    go_wp2_with fail
    refine (HWK.out _).mono ?_
    rintro e wz ⟨rfl, hbz⟩
    have hBz := hB.trans (hbz.mono hB.size)
    go_wp2_with fail
    go_returns
    exact ⟨rfl, hBz⟩
  · have d1 : decide (40 < (ws.length : Int)) = false := decide_eq_false (by omega)
    have d2 : decide (40 < ws.length) = false := decide_eq_false h1
    have HIS := Lib.hid (IsWalk5_any A c ws (by omega) w hg)
    have HAR : Hid (∀ W, Below w.heap.size w W → Calls Try.prog 16 #[.slice A ws.length c] W (TwoPost (if Wl.ptsB ws then Wl.dbl ws else 0) (if Wl.ptsB ws then 0 else 51) W)) := fun W hW => AreaW_any A c ws (by omega) W (prs_keep hg hW)
    have HTW : Hid (∀ W, Below w.heap.size w W → Calls Try.prog 40 #[.slice A ws.length c] W fun e w' => e = .returned (.tuple #[.int .i64 (Geo.whenV ws (Geo.tot Geo.fanV ws)), .int .i64 (Geo.errV ws)]) ∧ Below W.heap.size W w') := fun W hW => Twice_any A c ws (by omega) W (prs_keep hg hW)
    have HCK : Hid (∀ W, Below w.heap.size w W → Calls Try.prog 41 #[.slice A ws.length c] W (ChkPost (Geo.errV ws) W)) := fun W hW => Check_any A c ws (by omega) W (prs_keep hg hW)
    have HV : Hid (Geo.errV ws = 0 → Geo.whenV ws (Geo.tot Geo.fanV ws) = Wl.dbl ws) := fun h => by
      have hv : Geo.validB ws = true := by
        cases hb : Geo.validB ws with
        | true => rfl
        | false => unfold Geo.errV at h; rw [hb] at h; exact absurd h (by decide)
      rw [Geo.whenV_yes hv, Wl.tot_dbl]
    unfold TwoPost at HAR
    unfold ChkPost at HCK
    generalize Geo.whenV ws (Geo.tot Geo.fanV ws) = TW at *
    generalize Geo.errV ws = EV at *
    generalize Wl.dbl ws = DB at *
    clear hg h1
    cases hb : Wl.ptsB ws with
    | false =>
      rw [hb] at HIS
      clear HAR HTW HCK HV hb
      go_enter Try.func7, Try.ntmps7
      go_wp2_with fail
      refine HIS.out.mono ?_
      rintro e w1 ⟨rfl, hB1⟩
      go_wp2_with fail
      refine (HWK.out _).mono ?_
      rintro e wz ⟨rfl, hbz⟩
      have hBz := hB1.trans (hbz.mono hB1.size)
      go_wp2_with fail
      go_returns
      exact ⟨rfl, hBz⟩
    | true =>
      rw [hb] at HIS HAR
      simp only [if_true] at HAR
      clear hb
      by_cases h0 : EV = 0
      · subst h0
        have hV := HV.out rfl
        subst hV
        clear HV
        go_enter Try.func7, Try.ntmps7
        go_wp2_with fail
        refine HIS.out.mono ?_
        rintro e w1 ⟨rfl, hB1⟩
        go_wp2_with fail
        refine (HAR.out _ hB1).mono ?_
        rintro e w2 ⟨rfl, hb2⟩
        have hB2 := hB1.trans (hb2.mono hB1.size)
        go_wp2_with fail
        refine (HTW.out _ hB2).mono ?_
        rintro e w3 ⟨rfl, hb3⟩
        have hB3 := hB2.trans (hb3.mono hB2.size)
        go_wp2_with fail
        refine (HCK.out _ hB3).mono ?_
        rintro e w4 ⟨rfl, hb4⟩
        have hB4 := hB3.trans (hb4.mono hB3.size)
        go_wp2_with fail
        refine (HWK.out _).mono ?_
        rintro e wz ⟨rfl, hbz⟩
        have hBz := hB4.trans (hbz.mono hB4.size)
        go_wp2_with fail
        go_returns
        exact ⟨rfl, hBz⟩
      · have hn : (EV != 0) = true := by simpa using h0
        have hn2 : (EV == 0) = false := by simpa using h0
        clear HV
        go_enter Try.func7, Try.ntmps7
        go_wp2_with fail
        refine HIS.out.mono ?_
        rintro e w1 ⟨rfl, hB1⟩
        go_wp2_with fail
        refine (HAR.out _ hB1).mono ?_
        rintro e w2 ⟨rfl, hb2⟩
        have hB2 := hB1.trans (hb2.mono hB1.size)
        go_wp2_with fail
        refine (HTW.out _ hB2).mono ?_
        rintro e w3 ⟨rfl, hb3⟩
        have hB3 := hB2.trans (hb3.mono hB2.size)
        go_wp2_with fail
        refine (HCK.out _ hB3).mono ?_
        rintro e w4 ⟨rfl, hb4⟩
        have hB4 := hB3.trans (hb4.mono hB3.size)
        go_wp2_with fail
        refine (HWK.out _).mono ?_
        rintro e wz ⟨rfl, hbz⟩
        have hBz := hB4.trans (hbz.mono hB4.size)
        go_wp2_with fail
        go_returns
        exact ⟨rfl, hBz⟩

open Go.ChangeShapes Go.WideShapes Go.ChangeAt Go.RowKit Go.Joins

set_option maxRecDepth 100000 in
theorem pol5_lifted (os : Os) (started : os.Started) (H : Type) (enc : TypeId × Value → H) :
    ReturnsInHanded {} Try.checked os 7 .any (Rows.walksPolygonSpec.pre6 enc Try.prog Try.f7 Rows.walksPolygonRow.domain false) (Rows.walksPolygonSpec.post enc Try.prog Try.f7 false true false false) := by
  refine returnsInHanded_of_change (C := Try.checked) own started (by kernel_rfl) Try.func7
    (ChangeSpec.witness6 (enc := enc) (C := Try.checked) false ⟨#[], #[.slice none 0 0], []⟩ 8 (by kernel_rfl) (by kernel_rfl) (by kernel_rfl) (by kernel_rfl)) ?_
  intro W base args ds gs before hval0 hW hcnd _
  have hval : ∀ (j : Nat) t v, Try.f7.params[j]? = some t → args[j]? = some v → Value.okWide Try.prog W .any base t v := hval0
  have hW' := hW
  obtain ⟨p, q, hA0, hV, rfl, hfz, hnd⟩ := hW
  have hA : DataW.TrodAll enc Try.prog W 0 (fun _ => true) true Try.f7.params.toList args.toList ds p := hA0
  rw [Try.params7] at hA hval
  obtain ⟨v0, d0, rfl, rfl, h0⟩ := trodAll_one hA
  obtain ⟨rfl, rfl⟩ := trodVars_none hV
  obtain ⟨A, c, ws, rfl, hg_ws, hl_ws⟩ := open_prs Try.underlying22 Try.underlying28 (by kernel_rfl) (by kernel_rfl) (by kernel_rfl) (by kernel_rfl) (by kernel_rfl) Try.underlying3 Try.underlying3 (hval 0 22 v0 rfl rfl) h0
  refine (lawPol_walk A c ws W hl_ws hg_ws).mono fun e W' ⟨he, hb⟩ => ?_
  subst he
  exact ⟨_, rfl, law_post hW' rfl rfl (by intro t ht; have : t = 22 := (by rw [Try.params7] at ht; simpa using ht); subst this; exact ⟨by kernel_rfl, of_decide_eq_true (by kernel_rfl)⟩) rfl rfl rfl hb⟩

theorem pol5_holds : Rows.WalksPolygonSaid :=
  OpenClaim.holds_of_wide 7 Try.f7 rfl rfl rfl rfl rfl rfl rfl ⟨rfl, rfl, rfl, rfl, rfl⟩ rfl rfl rfl rfl rfl (by kernel_rfl) Try.func7 (by kernel_rfl)
    (of_decide_eq_true (by kernel_rfl)) (by unfold Func.isWrapper; rw [if_neg (of_decide_eq_false (by kernel_rfl))]; exact ⟨rfl, rfl⟩)
    (fun os started H enc _ => pol5_lifted os started H enc)
end Go.Proofs.Ytmjcdggmofohcaa
