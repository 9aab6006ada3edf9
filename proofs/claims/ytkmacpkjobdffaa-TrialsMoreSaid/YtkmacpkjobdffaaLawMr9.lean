/- The law TrialsMore (P9.12): for every trial, test, greater gain and class the statement's function returns true and changes nothing. -/
import Derived.Test.YtkmacpkjobdffaaTqM
namespace Go.Proofs.Ytkmacpkjobdffaa
open Go.RowKit
set_option maxRecDepth 100000 in
set_option maxHeartbeats 4000000 in
theorem lawTrialsMore_long (t : Ti.Tri) (A : Option Addr) (c : Nat) (xa : Int) (AX : Option Addr) (xw : List Wh.Wk) (cX : Nat) (g sz mo : Int) (w : World) (hll : 20 < t.ts.length ∨ Ti.longTo t.ts t.ts.length = true) (hg : Tsts0 w w.heap.size A t.ts) :
    Calls Try.prog 3 #[.agg (tiV t A c), .agg #[.int .i64 xa, .slice AX xw.length cX, .int .i64 g], .agg #[.int .i64 sz, .int .i64 mo]] w fun e w' => e = .returned (.bool true) ∧ Below w.heap.size w w' := by
  have HWK : Hid (∀ W, Calls Try.prog 10 #[] W fun e w' => e = .returned (.bool true) ∧ Below W.heap.size W w') := works9_any
  have HRD : Hid (∀ W, Below w.heap.size w W → Calls Try.prog 8 #[.agg (tiV t A c)] W fun e w' => e = .returned (.bool false) ∧ Below W.heap.size W w') := fun W hW => ready9_long t A c W hll (hg.below hW)
  clear hg hll
  obtain ⟨d, gain, ts⟩ := t
  obtain ⟨full, read, slip, skew, circ, glo, ghi, wrn, dws⟩ := d
  unfold tiV at *
  dsimp only at *
  go_enter Try.func3, Try.ntmps3
  go_wp2_with fail
  have bT1 := (((BoxS.new w 28 #[.int .i64 full, .int .i64 read, .int .i64 slip, .int .i64 skew, .int .i64 circ, .int .i64 glo, .int .i64 ghi, .int .i64 wrn, .int .i64 gain, .slice A ts.length c]).alloc (.cells #[.int .i64 xa, .slice AX xw.length cX, .int .i64 g] 33)).alloc (.cells #[.int .i64 sz, .int .i64 mo] 35))
  have bX1 := ((BoxS.new (World.alloc w (.cells #[.int .i64 full, .int .i64 read, .int .i64 slip, .int .i64 skew, .int .i64 circ, .int .i64 glo, .int .i64 ghi, .int .i64 wrn, .int .i64 gain, .slice A ts.length c] 28)) 33 #[.int .i64 xa, .slice AX xw.length cX, .int .i64 g]).alloc (.cells #[.int .i64 sz, .int .i64 mo] 35))
  have bC1 := (BoxS.new (World.alloc (World.alloc w (.cells #[.int .i64 full, .int .i64 read, .int .i64 slip, .int .i64 skew, .int .i64 circ, .int .i64 glo, .int .i64 ghi, .int .i64 wrn, .int .i64 gain, .slice A ts.length c] 28)) (.cells #[.int .i64 xa, .slice AX xw.length cX, .int .i64 g] 33)) 35 #[.int .i64 sz, .int .i64 mo])
  have hB1 : Below w.heap.size w (World.alloc (World.alloc (World.alloc w (.cells #[.int .i64 full, .int .i64 read, .int .i64 slip, .int .i64 skew, .int .i64 circ, .int .i64 glo, .int .i64 ghi, .int .i64 wrn, .int .i64 gain, .slice A ts.length c] 28)) (.cells #[.int .i64 xa, .slice AX xw.length cX, .int .i64 g] 33)) (.cells #[.int .i64 sz, .int .i64 mo] 35)) := by (repeat' (first | (with_reducible exact Below.refl _ _) | (with_reducible assumption) | (with_reducible refine Below.alloc ?_ ?_ _) | (with_reducible refine Below.drew ?_) | (with_reducible refine Below.setCell ?_ ?_ _) | go_size | (exact (by simp)) | omega))
  simp only [World.size_alloc] at bX1 bC1
  generalize World.alloc (World.alloc (World.alloc w _) _) _ = w1 at *
  refine (HRD.out _ hB1).mono ?_
  rintro e w2 ⟨rfl, hb2⟩
  have bT2 := bT1.below hb2
  have bX2 := bX1.below hb2
  have bC2 := bC1.below hb2
  have hB2 := hB1.trans (hb2.mono hB1.size)
  clear bT1 bX1 bC1 hB1
  have kT0 := bT2.cell 0 rfl
  have kT1 := bT2.cell 1 rfl
  have kT2 := bT2.cell 2 rfl
  have kT3 := bT2.cell 3 rfl
  have kT4 := bT2.cell 4 rfl
  have kT5 := bT2.cell 5 rfl
  have kT6 := bT2.cell 6 rfl
  have kT7 := bT2.cell 7 rfl
  have kT8 := bT2.cell 8 rfl
  have kT9 := bT2.cell 9 rfl
  have lT := bT2.lt
  have kX0 := bX2.cell 0 rfl
  have kX1 := bX2.cell 1 rfl
  have kX2 := bX2.cell 2 rfl
  have lX := bX2.lt
  have kC0 := bC2.cell 0 rfl
  have kC1 := bC2.cell 1 rfl
  have lC := bC2.lt
  go_wp2_with fail
  clear kT0 kT1 kT2 kT3 kT4 kT5 kT6 kT7 kT8 kT9 lT kX0 kX1 kX2 lX kC0 kC1 lC
  refine (HWK.out _).mono ?_
  rintro e w3 ⟨rfl, hb3⟩
  have bT3 := bT2.below hb3
  have bX3 := bX2.below hb3
  have bC3 := bC2.below hb3
  have hB3 := hB2.trans (hb3.mono hB2.size)
  clear bT2 bX2 bC2 hB2
  go_wp2_with fail
  go_returns
  exact ⟨rfl, hB3⟩
theorem lawTrialsMore_all (t : Ti.Tri) (A : Option Addr) (c : Nat) (xa : Int) (AX : Option Addr) (xw : List Wh.Wk) (cX : Nat) (g sz mo : Int) (w : World) (_ : t.ts.length ≤ maxLen) (hg : Tsts0 w w.heap.size A t.ts) (_ : xw.length ≤ maxLen) (hx : Wks w w.heap.size AX xw) :
    Calls Try.prog 3 #[.agg (tiV t A c), .agg #[.int .i64 xa, .slice AX xw.length cX, .int .i64 g], .agg #[.int .i64 sz, .int .i64 mo]] w fun e w' => e = .returned (.bool true) ∧ Below w.heap.size w w' := by
  by_cases hll : 20 < t.ts.length ∨ Ti.longTo t.ts t.ts.length = true
  · exact lawTrialsMore_long t A c xa AX xw cX g sz mo w hll hg
  · have h1 : ¬ 20 < t.ts.length := fun h => hll (.inl h)
    have h2 : Ti.longTo t.ts t.ts.length = false := by simpa using fun h => hll (.inr h)
    exact lawMore9_walk t A c xa AX xw cX g sz mo w (by omega) (fun _ => hx) (hg.short h2)
open Go.ChangeShapes Go.WideShapes Go.ChangeAt Go.RowKit Go.Joins Go.Deep
section
variable {H : Type} {enc : TypeId × Value → H} {w : World} {base : Nat} {spare : Nat → Bool} {held : Bool} {r : Reach} {b0 : Nat} {v : Value} {d : DataW H} {p : List MemPlace}
set_option maxRecDepth 100000 in
theorem open_More9 (hv : Value.okWide Try.prog w r b0 33 v) (h : DataW.Trod enc Try.prog w base spare held 33 v d p) :
    ∃ (xa : Int) (AX : Option Addr) (xw : List Wh.Wk) (cX : Nat) (g : Int), v = .agg #[.int .i64 xa, .slice AX xw.length cX, .int .i64 g] ∧ xw.length ≤ maxLen ∧ Wks w w.heap.size AX xw := by
  obtain ⟨cs, rfl, hsz⟩ := okWide_struct Try.underlying33 hv
  obtain ⟨l⟩ := cs
  match l, hsz.trans (by kernel_rfl : Try.prog.cellsOf 33 = 3) with
  | [c0, c1, c2], _ =>
    obtain ⟨fuel, hf⟩ := h
    obtain ⟨y0, y1, m, hx, _, h0, h1⟩ := trod_struct2 Try.underlying33 hf
    simp [Value.cells, cells_int4, cells_test5] at h0 h1
    obtain ⟨z0, z1, m', hx', _, g0, g1⟩ := trod_struct2 Try.underlying31 h0
    obtain ⟨a0, e0', _, _⟩ := DataW.trod_int Try.underlying3 (by simpa using g0)
    rw [cells_int4] at e0'
    obtain rfl : c0 = .int .i64 a0 := by simpa using e0'
    obtain ⟨A', c', ks, rfl, hw, hl, _⟩ := trod_wks (c0 := c1) (by simpa [cells_wks5] using g1)
    obtain ⟨f9, e1, _, _⟩ := DataW.trod_int Try.underlying3 h1
    simp at e1
    subst e1
    exact ⟨a0, A', ks, c', f9, rfl, hl, hw⟩
end

open Go.ChangeShapes Go.WideShapes Go.ChangeAt Go.RowKit Go.Joins

set_option maxRecDepth 100000 in
theorem more9_lifted (os : Os) (started : os.Started) (H : Type) (enc : TypeId × Value → H) :
    ReturnsInHanded {} Try.checked os 3 .any (Rows.trialsMoreSpec.pre6 enc Try.prog Try.f3 Rows.trialsMoreRow.domain false) (Rows.trialsMoreSpec.post enc Try.prog Try.f3 false true false false) := by
  refine returnsInHanded_of_change (C := Try.checked) own started (by kernel_rfl) Try.func3
    (ChangeSpec.witness6 (enc := enc) (C := Try.checked) false ⟨#[], #[.agg #[.int .i64 0, .int .i64 0, .int .i64 0, .int .i64 0, .int .i64 0, .int .i64 0, .int .i64 0, .int .i64 0, .int .i64 0, .slice none 0 0], .agg #[.int .i64 0, .slice none 0 0, .int .i64 0], .agg #[.int .i64 0, .int .i64 0]], []⟩ 8 (by kernel_rfl) (by kernel_rfl) (by kernel_rfl) (by kernel_rfl)) ?_
  intro W base args ds gs before hval0 hW hcnd _
  have hval : ∀ (j : Nat) t v, Try.f3.params[j]? = some t → args[j]? = some v → Value.okWide Try.prog W .any base t v := hval0
  have hW' := hW
  obtain ⟨p, q, hA0, hV, rfl, hfz, hnd⟩ := hW
  have hA : DataW.TrodAll enc Try.prog W 0 (fun _ => true) true Try.f3.params.toList args.toList ds p := hA0
  rw [Try.params3] at hA hval
  obtain ⟨v0, v1, v2, d0, d1, d2, p0, p1, p2, rfl, rfl, rfl, h0, h1, h2⟩ := trodAll_three hA
  obtain ⟨rfl, rfl⟩ := trodVars_none hV
  obtain ⟨t, A, c, rfl, hh0_0, hh0_1⟩ := open_Trial (hval 0 28 v0 rfl rfl) h0
  obtain ⟨xa, AX, xw, cX, g, rfl, hh1_0, hh1_1⟩ := open_More9 (hval 1 33 v1 rfl rfl) h1
  obtain ⟨sz, mo, rfl⟩ := open_Class (hval 2 35 v2 rfl rfl) h2
  refine (lawTrialsMore_all t A c xa AX xw cX g sz mo W hh0_0 hh0_1 hh1_0 hh1_1).mono fun e W' ⟨he, hb⟩ => ?_
  subst he
  exact ⟨_, rfl, law_post hW' rfl rfl (by intro t ht; have : t = 28 ∨ t = 33 ∨ t = 35 := (by rw [Try.params3] at ht; simpa using ht); rcases this with rfl | rfl | rfl <;> exact ⟨by kernel_rfl, of_decide_eq_true (by kernel_rfl)⟩) rfl rfl rfl hb⟩

theorem more9_holds : Rows.TrialsMoreSaid :=
  OpenClaim.holds_of_wide 3 Try.f3 rfl rfl rfl rfl rfl rfl rfl ⟨rfl, rfl, rfl, rfl, rfl⟩ rfl rfl rfl rfl rfl (by kernel_rfl) Try.func3 (by kernel_rfl)
    (of_decide_eq_true (by kernel_rfl)) (by unfold Func.isWrapper; rw [if_neg (of_decide_eq_false (by kernel_rfl))]; exact ⟨rfl, rfl⟩)
    (fun os started H enc _ => more9_lifted os started H enc)
end Go.Proofs.Ytkmacpkjobdffaa
