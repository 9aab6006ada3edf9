/- The law TrialsZero (P9.16): for every trial and two areas the statement's function returns true and changes nothing. -/
import Derived.Test.YtkmacpkjobdffaaTzC
namespace Go.Proofs.Ytkmacpkjobdffaa
open Go.RowKit
theorem Tsts0.below {w w' : World} {A : Option Addr} {ts : List Ti.Tst} (h : Tsts0 w w.heap.size A ts) (hW : Below w.heap.size w w') : Tsts0 w' w'.heap.size A ts := fun hn => by
  obtain ⟨b, off, e, hB, hc⟩ := h hn
  refine ⟨b, off, e, by have := hW.size; omega, fun k x hk => ?_⟩
  obtain ⟨A', c', h1, h2, h3⟩ := hc k x hk
  exact ⟨A', c', (hW.cell (p := ⟨b, _, none⟩) hB).trans h1, (hW.cell (p := ⟨b, _, none⟩) hB).trans h2, (h3.keep hW).wider hW.size⟩
set_option maxRecDepth 100000 in
set_option maxHeartbeats 4000000 in
theorem lawTrialsZero_long (t : Ti.Tri) (A : Option Addr) (c : Nat) (le mr : Int) (w : World) (hll : 20 < t.ts.length ∨ Ti.longTo t.ts t.ts.length = true) (hg : Tsts0 w w.heap.size A t.ts) :
    Calls Try.prog 7 #[.agg (tiV t A c), .agg #[.int .i64 le, .int .i64 mr]] w fun e w' => e = .returned (.bool true) ∧ Below w.heap.size w w' := by
  have HWK : Hid (∀ W, Calls Try.prog 10 #[] W fun e w' => e = .returned (.bool true) ∧ Below W.heap.size W w') := works9_any
  have HRD : Hid (∀ W, Below w.heap.size w W → Calls Try.prog 8 #[.agg (tiV t A c)] W fun e w' => e = .returned (.bool false) ∧ Below W.heap.size W w') := fun W hW => ready9_long t A c W hll (hg.below hW)
  clear hg hll
  obtain ⟨d, gain, ts⟩ := t
  obtain ⟨full, read, slip, skew, circ, glo, ghi, wrn, dws⟩ := d
  unfold tiV at *
  dsimp only at *
  go_enter Try.func7, Try.ntmps7
  go_wp2_with fail
  have bT1 := ((BoxS.new w 28 #[.int .i64 full, .int .i64 read, .int .i64 slip, .int .i64 skew, .int .i64 circ, .int .i64 glo, .int .i64 ghi, .int .i64 wrn, .int .i64 gain, .slice A ts.length c]).alloc (.cells #[.int .i64 le, .int .i64 mr] 62))
  have bX1 := (BoxS.new (World.alloc w (.cells #[.int .i64 full, .int .i64 read, .int .i64 slip, .int .i64 skew, .int .i64 circ, .int .i64 glo, .int .i64 ghi, .int .i64 wrn, .int .i64 gain, .slice A ts.length c] 28)) 62 #[.int .i64 le, .int .i64 mr])
  have hB1 : Below w.heap.size w (World.alloc (World.alloc w (.cells #[.int .i64 full, .int .i64 read, .int .i64 slip, .int .i64 skew, .int .i64 circ, .int .i64 glo, .int .i64 ghi, .int .i64 wrn, .int .i64 gain, .slice A ts.length c] 28)) (.cells #[.int .i64 le, .int .i64 mr] 62)) := by (repeat' (first | (with_reducible exact Below.refl _ _) | (with_reducible assumption) | (with_reducible refine Below.alloc ?_ ?_ _) | (with_reducible refine Below.drew ?_) | (with_reducible refine Below.setCell ?_ ?_ _) | go_size | (exact (by simp)) | omega))
  simp only [World.size_alloc] at bX1
  generalize World.alloc (World.alloc w _) _ = w1 at *
  refine (HRD.out _ hB1).mono ?_
  rintro e w2 ⟨rfl, hb2⟩
  have bT2 := bT1.below hb2
  have bX2 := bX1.below hb2
  have hB2 := hB1.trans (hb2.mono hB1.size)
  clear bT1 bX1 hB1
  have kT0 := bT2.cell 0 rfl
  have kT1 := bT2.cell 1 rfl
  have kT2 := bT2.cell 2 rfl
  have kT3 := bT2.cell 3 rfl
  have kT4 := bT2.cell 4 rfl
  have kT5 := bT2.cell 5 rfl
  have kT6 := bT2.cell 6 rfl
  have kT7 := bT2.cell 7 rfl
  have kT8 := bT2.cell 8 rfl
  have kT9 := bT2.cell 9 rfl
  have lT := bT2.lt
  have kX0 := bX2.cell 0 rfl
  have kX1 := bX2.cell 1 rfl
  have lX := bX2.lt
  go_wp2_with fail
  clear kT0 kT1 kT2 kT3 kT4 kT5 kT6 kT7 kT8 kT9 lT kX0 kX1 lX
  refine (HWK.out _).mono ?_
  rintro e w3 ⟨rfl, hb3⟩
  have bT3 := bT2.below hb3
  have bX3 := bX2.below hb3
  have hB3 := hB2.trans (hb3.mono hB2.size)
  clear bT2 bX2 hB2
  go_wp2_with fail
  go_returns
  exact ⟨rfl, hB3⟩
theorem lawTrialsZero_all (t : Ti.Tri) (A : Option Addr) (c : Nat) (le mr : Int) (w : World) (_ : t.ts.length ≤ maxLen) (hg : Tsts0 w w.heap.size A t.ts) :
    Calls Try.prog 7 #[.agg (tiV t A c), .agg #[.int .i64 le, .int .i64 mr]] w fun e w' => e = .returned (.bool true) ∧ Below w.heap.size w w' := by
  by_cases hll : 20 < t.ts.length ∨ Ti.longTo t.ts t.ts.length = true
  · exact lawTrialsZero_long t A c le mr w hll hg
  · have h1 : ¬ 20 < t.ts.length := fun h => hll (.inl h)
    have h2 : Ti.longTo t.ts t.ts.length = false := by simpa using fun h => hll (.inr h)
    exact lawZero_walk t le mr A c w (by omega) (hg.short h2)
open Go.ChangeShapes Go.WideShapes Go.ChangeAt Go.RowKit Go.Joins
section
variable {H : Type} {enc : TypeId × Value → H} {w : World} {base : Nat} {spare : Nat → Bool} {held : Bool} {r : Reach} {b0 : Nat} {v : Value} {d : DataW H} {p : List MemPlace}
set_option maxRecDepth 100000 in
theorem open_Two (hv : Value.okWide Try.prog w r b0 62 v) (h : DataW.Trod enc Try.prog w base spare held 62 v d p) : ∃ a b : Int, v = .agg #[.int .i64 a, .int .i64 b] := by
  obtain ⟨c0, c1, y0, y1, m, rfl, rfl, rfl, hy0, hy1⟩ := open_agg2 Try.underlying62 (by kernel_rfl) (by kernel_rfl : Try.prog.cellsOf 62 = 2) hv h
  obtain ⟨a, e0, rfl, wa⟩ := DataW.trod_int Try.underlying3 hy0
  obtain ⟨b, e1, rfl, wb⟩ := DataW.trod_int Try.underlying3 hy1
  simp at e0 e1
  subst e0 e1
  exact ⟨a, b, rfl⟩
end

open Go.ChangeShapes Go.WideShapes Go.ChangeAt Go.RowKit Go.Joins

set_option maxRecDepth 100000 in
theorem zero9_lifted (os : Os) (started : os.Started) (H : Type) (enc : TypeId × Value → H) :
    ReturnsInHanded {} Try.checked os 7 .any (Rows.trialsZeroSpec.pre6 enc Try.prog Try.f7 Rows.trialsZeroRow.domain false) (Rows.trialsZeroSpec.post enc Try.prog Try.f7 false true false false) := by
  refine returnsInHanded_of_change (C := Try.checked) own started (by kernel_rfl) Try.func7
    (ChangeSpec.witness6 (enc := enc) (C := Try.checked) false ⟨#[], #[.agg #[.int .i64 0, .int .i64 0, .int .i64 0, .int .i64 0, .int .i64 0, .int .i64 0, .int .i64 0, .int .i64 0, .int .i64 0, .slice none 0 0], .agg #[.int .i64 0, .int .i64 0]], []⟩ 8 (by kernel_rfl) (by kernel_rfl) (by kernel_rfl) (by kernel_rfl)) ?_
  intro W base args ds gs before hval0 hW hcnd _
  have hval : ∀ (j : Nat) t v, Try.f7.params[j]? = some t → args[j]? = some v → Value.okWide Try.prog W .any base t v := hval0
  have hW' := hW
  obtain ⟨p, q, hA0, hV, rfl, hfz, hnd⟩ := hW
  have hA : DataW.TrodAll enc Try.prog W 0 (fun _ => true) true Try.f7.params.toList args.toList ds p := hA0
  rw [Try.params7] at hA hval
  obtain ⟨v0, v1, d0, d1, p0, p1, rfl, rfl, rfl, h0, h1⟩ := trodAll_two hA
  obtain ⟨rfl, rfl⟩ := trodVars_none hV
  obtain ⟨t, A, c, rfl, hh0_0, hh0_1⟩ := open_Trial (hval 0 28 v0 rfl rfl) h0
  obtain ⟨le, mr, rfl⟩ := open_Two (hval 1 62 v1 rfl rfl) h1
  refine (lawTrialsZero_all t A c le mr W hh0_0 hh0_1).mono fun e W' ⟨he, hb⟩ => ?_
  subst he
  exact ⟨_, rfl, law_post hW' rfl rfl (by intro t ht; have : t = 28 ∨ t = 62 := (by rw [Try.params7] at ht; simpa using ht); rcases this with rfl | rfl <;> exact ⟨by kernel_rfl, of_decide_eq_true (by kernel_rfl)⟩) rfl rfl rfl hb⟩

theorem zero9_holds : Rows.TrialsZeroSaid :=
  OpenClaim.holds_of_wide 7 Try.f7 rfl rfl rfl rfl rfl rfl rfl ⟨rfl, rfl, rfl, rfl, rfl⟩ rfl rfl rfl rfl rfl (by kernel_rfl) Try.func7 (by kernel_rfl)
    (of_decide_eq_true (by kernel_rfl)) (by unfold Func.isWrapper; rw [if_neg (of_decide_eq_false (by kernel_rfl))]; exact ⟨rfl, rfl⟩)
    (fun os started H enc _ => zero9_lifted os started H enc)
end Go.Proofs.Ytkmacpkjobdffaa
