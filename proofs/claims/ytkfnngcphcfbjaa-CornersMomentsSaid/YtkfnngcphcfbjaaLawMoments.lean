/- First, Second and Centre of package corners return for any corners what the specification returns, and leave the corners as they were. No condition beyond the statement's own: at most 40 corners are looked at. -/
import Derived.Test.YtkfnngcphcfbjaaLawMom
import Derived.Test.YtkfnngcphcfbjaaArea
namespace Go.Proofs.Ytkfnngcphcfbjaa
open Go.RowKit

set_option maxRecDepth 100000 in
set_option maxHeartbeats 8000000 in
theorem lawMoments_walk (A : Option Addr) (c : Nat) (ps : List (Int × Int)) (w : World) (hm : ps.length ≤ maxLen) (hg : Prs w w.heap.size A ps) :
    Calls Try.prog 11 #[.slice A ps.length c] w fun e w' => e = .returned (.bool true) ∧ Below w.heap.size w w' := by
  by_cases hl : 40 < ps.length
  · have HF : Hid (∀ W, Calls Try.prog 26 #[.slice A ps.length c] W fun e w' => e = .returned (.bool true) ∧ W = w') := fun W => (Far_any A c ps.length W hm).mono (by rw [decide_eq_true hl]; exact fun _ _ h => h)
    clear hg hl hm
    go_enter Try.func11, Try.ntmps11
    go_wp2_with fail
    refine (HF.out _).mono ?_
    rintro e w1 ⟨rfl, rfl⟩
    go_wp2_with fail
    refine (works_any _).mono ?_
    rintro r w1 ⟨rfl, hb1⟩
    have hB1 : Below w.heap.size w w1 := Below.trans (by (repeat' (first | (with_reducible exact Below.refl _ _) | (with_reducible assumption) | (with_reducible refine Below.alloc ?_ ?_ _) | (with_reducible refine below_drewN ?_ _) | (with_reducible refine Below.drew ?_) | (with_reducible refine Below.setCell ?_ ?_ _) | go_size))) (hb1.mono (by first | omega | (simp; done) | (simp; omega))); have hz1 := hb1.size; try simp at hz1
    go_wp2_with fail
    go_returns
    exact ⟨rfl, hB1⟩
  · exact lawMoments_short (fun _ h => Geo.area_ne h) A c ps w hm hl hg

open Go.ChangeShapes Go.WideShapes Go.ChangeAt Go.RowKit Go.Joins

set_option maxRecDepth 100000 in
theorem moments_lifted (os : Os) (started : os.Started) (H : Type) (enc : TypeId × Value → H) :
    ReturnsInHanded {} Try.checked os 11 .any (Rows.cornersMomentsSpec.pre6 enc Try.prog Try.f11 Rows.cornersMomentsRow.domain false) (Rows.cornersMomentsSpec.post enc Try.prog Try.f11 false true false false) := by
  refine returnsInHanded_of_change (C := Try.checked) own started (by kernel_rfl) Try.func11
    (ChangeSpec.witness6 (enc := enc) (C := Try.checked) false ⟨#[], #[.slice none 0 0], []⟩ 8 (by kernel_rfl) (by kernel_rfl) (by kernel_rfl) (by kernel_rfl)) ?_
  intro W base args ds gs before hval0 hW hcnd _
  have hval : ∀ (j : Nat) t v, Try.f11.params[j]? = some t → args[j]? = some v → Value.okWide Try.prog W .any base t v := hval0
  have hW' := hW
  obtain ⟨p, q, hA0, hV, rfl, hfz, hnd⟩ := hW
  have hA : DataW.TrodAll enc Try.prog W 0 (fun _ => true) true Try.f11.params.toList args.toList ds p := hA0
  rw [Try.params11] at hA hval
  obtain ⟨v0, d0, rfl, rfl, h0⟩ := trodAll_one hA
  obtain ⟨rfl, rfl⟩ := trodVars_none hV
  obtain ⟨A, c, ps, rfl, hg_ps, hl_ps⟩ := open_prs Try.underlying22 Try.underlying24 (by kernel_rfl) (by kernel_rfl) (by kernel_rfl) (by kernel_rfl) (by kernel_rfl) Try.underlying3 Try.underlying3 (hval 0 22 v0 rfl rfl) h0
  refine (lawMoments_walk A c ps W hl_ps hg_ps).mono fun e W' ⟨he, hb⟩ => ?_
  subst he
  exact ⟨_, rfl, law_post hW' rfl rfl (by intro t ht; have : t = 22 := (by rw [Try.params11] at ht; simpa using ht); subst this; exact ⟨by kernel_rfl, of_decide_eq_true (by kernel_rfl)⟩) rfl rfl rfl hb⟩

theorem moments_holds : Rows.CornersMomentsSaid :=
  OpenClaim.holds_of_wide 11 Try.f11 rfl rfl rfl rfl rfl rfl rfl ⟨rfl, rfl, rfl, rfl, rfl⟩ rfl rfl rfl rfl rfl (by kernel_rfl) Try.func11 (by kernel_rfl)
    (of_decide_eq_true (by kernel_rfl)) (by unfold Func.isWrapper; rw [if_neg (of_decide_eq_false (by kernel_rfl))]; exact ⟨rfl, rfl⟩)
    (fun os started H enc _ => moments_lifted os started H enc)
end Go.Proofs.Ytkfnngcphcfbjaa
