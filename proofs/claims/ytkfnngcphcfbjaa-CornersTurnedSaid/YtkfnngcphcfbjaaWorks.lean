/- What the statements about corners share: copies, sameness, the example. -/
import Derived.Test.YtkfnngcphcfbjaaWhere
import Derived.Test.YtkfnngcphcfbjaaPairs
import Derived.Test.YtkfnngcphcfbjaaPairsO
namespace Go.Proofs.Ytkfnngcphcfbjaa
open Go.RowKit
theorem point_info : (Try.prog.info? 24).map (fun i => (i.zero, i.size, i.bytes)) = some (some (.agg #[.int .i64 0, .int .i64 0]), 2, 16) := by kernel_rfl
theorem own_form {w : World} {B : Nat} {e : TypeId} {v : Value} {n : Nat} {xs : List Value} (h : w.ownsRow B e 2 v n xs) : ∃ A c, v = .slice A n c := by
  rcases h.2 with ⟨rfl, rfl⟩ | ⟨g, cap, cur, rfl, _⟩
  · exact ⟨none, 0, rfl⟩
  · exact ⟨some ⟨g, 0, none⟩, cap, rfl⟩
theorem prs_of_own {w : World} {B : Nat} {e : TypeId} {A : Option Addr} {c : Nat} {gs : List (Int × Int)} (h : w.ownsRow B e 2 (.slice A gs.length c) gs.length (flat gs)) : Prs w w.heap.size A gs :=
  Prs.of_reads (Reads.of_own h)
/-- 'append([]Point{}, l...)': a copy in new memory. -/
theorem wpList_copy {ops : Array Oper} {rest : List Oper} {o : Oper} {a : Act} {Q : Exit → Act → World → Prop} {wr : World} (hgd : o.guard = none) (s y : Operand)
    (ho : o.op = .call { callee := .builtin .append, args := #[s, y], argTypes := #[22, 22] }) (A : Option Addr) (c : Nat) (gs : List (Int × Int)) (g : Nat) (hsz : g = wr.heap.size)
    (hs : a.eval s = .slice (some ⟨g, 0, none⟩) 0 0) (hx : a.eval y = .slice A gs.length c) (hg : Prs wr wr.heap.size A gs) (hn : gs.length ≤ 1000000000)
    (h : ∀ A' c' w', w'.ownsRow wr.heap.size 24 2 (.slice A' gs.length c') gs.length (flat gs) → Below wr.heap.size wr w' → wpList Try.prog ops Q rest (a.put o.dst (.slice A' gs.length c')) w') :
    wpList Try.prog ops Q (o :: rest) a (wr.alloc (.cells #[] 24)) := by
  subst hsz
  obtain ⟨i0, hi0, hz0, hz1, hz2⟩ := info_parts point_info
  have hb0 : Below wr.heap.size wr (wr.alloc (.cells #[] 24)) := (Below.refl _ _).alloc (Nat.le_refl _) _
  refine wpList_append_any _ hgd s y 22 ho wr.heap.size 24 i0 (.agg #[.int .i64 0, .int .i64 0]) 2 16 Try.underlying22 hi0 hz0 hz1 hz2 rfl (by decide) (.slice (some ⟨wr.heap.size, 0, none⟩) 0 0) 0 [] hs
    (World.ownsRow_made wr #[] 0 (Nat.le_refl _) (by simp [maxLen]) rfl) wr.heap.size A gs.length c (flat gs) hx (hg.keep hb0).reads (flat_one gs) (by simp only [maxLen]; omega) (by omega) (by simp) ?_
  intro v' w' hown hgr hat
  rw [Nat.zero_add, List.nil_append] at hown
  obtain ⟨A', c', rfl⟩ := own_form hown
  exact h A' c' w' hown (hb0.grown hgr (by simp) (fun j hj => by
    have : j = wr.heap.size := by simpa [Value.ownBlock] using hj.symm
    omega))
def CopyPost (ps : List (Int × Int)) (w : World) (e : Ending) (w' : World) : Prop := ∃ A c, e = .returned (.slice A ps.length c) ∧ Prs w' w'.heap.size A ps ∧ Below w.heap.size w w'

set_option maxHeartbeats 1000000 in
theorem Copy_any (A : Option Addr) (c : Nat) (ps : List (Int × Int)) (hl : ps.length ≤ 1000000000) (w : World) (hP : Prs w w.heap.size A ps) :
    Calls Try.prog 32 #[.slice A ps.length c] w (CopyPost ps w) := by
  have HP := Lib.hid hP
  clear hP
  go_enter Try.func32, Try.ntmps32
  go_wp2_with (at_builtin; go_must (refine wpList_copy rfl (.tmp 3) (.tmp 4) rfl A c ps w.heap.size rfl rfl rfl HP.out hl ?_; intro A' c' w1 hown1 hb1; have HO1 := Lib.hid (prs_of_own hown1); clear hown1))
  go_returns
  exact ⟨A', c', rfl, HO1.out, hb1⟩

set_option maxRecDepth 100000 in
set_option maxHeartbeats 1000000 in
theorem Same_yes (A A2 : Option Addr) (c c2 : Nat) (ps : List (Int × Int)) (hl : ps.length ≤ 100) (w : World) (hP : Prs w w.heap.size A ps) (hP2 : Prs w w.heap.size A2 ps) :
    Calls Try.prog 36 #[.slice A ps.length c, .slice A2 ps.length c2] w fun e w' => e = .returned (.bool true) ∧ Below w.heap.size w w' := by
  have H1 := Lib.hid hP
  have H2 := Lib.hid hP2
  have hll : (ps.length : Int) ≤ 100 := by omega
  clear hP hP2
  go_enter Try.func36, Try.ntmps36
  go_wp2_with fail
  go_loopw [5] (fun x wr => ∃ k : Nat, (k : Int) ≤ ps.length ∧ x = .int .i64 k ∧ Below w.heap.size w wr) (fun x _ => (ps.length - intOf x).toNat)
  case atStart => exact ⟨0, by omega, rfl, Below.refl _ _⟩
  case round =>
    obtain ⟨k, hk, rfl, hB⟩ := hrel
    have hk0 := Int.natCast_nonneg k
    by_cases hlt : (k : Int) < ps.length
    · have hkl : k < ps.length := by omega
      have hg : ps[k]? = some ps[k] := List.getElem?_eq_getElem hkl
      obtain ⟨b, off, rfl, hb, hc⟩ := H1.out (by omega)
      obtain ⟨b2, off2, rfl, hb2, hc2⟩ := H2.out (by omega)
      have d0 := (hB.cell (p := ⟨b, off + k * 2, none⟩) hb).trans (hc k _ hg).1
      have d1 := (hB.cell (p := ⟨b, off + k * 2 + 1, none⟩) hb).trans (hc k _ hg).2
      have d2 := (hB.cell (p := ⟨b2, off2 + k * 2, none⟩) hb2).trans (hc2 k _ hg).1
      have d3 := (hB.cell (p := ⟨b2, off2 + k * 2 + 1, none⟩) hb2).trans (hc2 k _ hg).2
      clear hc hc2 hg H1 H2
      generalize ps[k] = p at *
      obtain ⟨x, y⟩ := p
      dsimp only at d0 d1 d2 d3
      go_wp2_with fail
      go_quiet (fail)
      go_wp2_with fail
      go_roundw
      case rel => exact ⟨k + 1, by omega, by go_num, by (repeat' (first | (with_reducible exact Below.refl _ _) | (with_reducible assumption) | (with_reducible refine Below.alloc ?_ ?_ _) | (with_reducible refine below_drewN ?_ _) | (with_reducible refine Below.drew ?_) | (with_reducible refine Below.setCell ?_ ?_ _) | go_size))⟩
      case measure => simp [intOf]; omega
    · go_wp2_with fail
      go_returns
      exact ⟨rfl, hB⟩

def exP : List (Int × Int) := [(0, 0), (4, 0), (4, 3), (2, 1), (0, 3)]
set_option maxHeartbeats 1000000 in
theorem Example_any (w : World) : Calls Try.prog 45 #[] w (CopyPost exP w) := by
  go_enter Try.func45, Try.ntmps45
  go_wp2_with fail
  go_returns
  refine ⟨some ⟨w.heap.size, 0, none⟩, 5, rfl, fun _ => ⟨w.heap.size, 0, rfl, by simp, fun k g hk => ?_⟩, (Below.refl _ _).alloc (Nat.le_refl _) _⟩
  have hb := BoxS.new w 24 #[.int .i64 0, .int .i64 0, .int .i64 4, .int .i64 0, .int .i64 4, .int .i64 3, .int .i64 2, .int .i64 1, .int .i64 0, .int .i64 3]
  rcases k with _ | _ | _ | _ | _ | k
  · obtain rfl : g = (0, 0) := by simpa [exP] using hk.symm
    exact ⟨hb.cell 0 rfl, hb.cell 1 rfl⟩
  · obtain rfl : g = (4, 0) := by simpa [exP] using hk.symm
    exact ⟨hb.cell 2 rfl, hb.cell 3 rfl⟩
  · obtain rfl : g = (4, 3) := by simpa [exP] using hk.symm
    exact ⟨hb.cell 4 rfl, hb.cell 5 rfl⟩
  · obtain rfl : g = (2, 1) := by simpa [exP] using hk.symm
    exact ⟨hb.cell 6 rfl, hb.cell 7 rfl⟩
  · obtain rfl : g = (0, 3) := by simpa [exP] using hk.symm
    exact ⟨hb.cell 8 rfl, hb.cell 9 rfl⟩
  · simp [exP] at hk
theorem ex_sm : ∀ p ∈ exP, Geo.sm p := by
  intro p hp
  simp [exP] at hp
  rcases hp with rfl | rfl | rfl | rfl | rfl <;> (unfold Geo.sm; omega)
theorem ex_valid : Geo.validB exP = true := by decide +kernel
theorem ex_err : Geo.errV exP = 0 := Geo.errV_yes ex_valid
theorem ex_tw : Geo.whenV exP (Geo.tot Geo.fanV exP) = 16 := (Geo.whenV_yes ex_valid _).trans (by decide +kernel)
theorem ex_fx : Geo.whenV exP (Geo.tot Geo.fxV exP) = 96 := (Geo.whenV_yes ex_valid _).trans (by decide +kernel)
theorem ex_fy : Geo.whenV exP (Geo.tot Geo.fyV exP) = 52 := (Geo.whenV_yes ex_valid _).trans (by decide +kernel)
theorem ex_in : Geo.whenV exP (Geo.inV exP) = 2 := (Geo.whenV_yes ex_valid _).trans (by decide +kernel)
theorem ex_on : Geo.whenV exP (Geo.tot Geo.dvV exP) = 14 := (Geo.whenV_yes ex_valid _).trans (by decide +kernel)
theorem ex_wh : Geo.whV exP (2, 2) = 3 ∧ Geo.whE exP (2, 2) = 0 := by
  have h := Geo.wh_yes ex_valid (p := (2, 2)) (by decide +kernel)
  exact ⟨h.1.trans ((lies_eq exP ex_sm (2, 2)).symm.trans (by decide +kernel)), h.2⟩

set_option maxRecDepth 100000 in
set_option maxHeartbeats 2000000 in
theorem works_any (w : World) : Calls Try.prog 15 #[] w fun e w' => e = .returned (.bool true) ∧ Below w.heap.size w w' := by
  have hl : exP.length ≤ 100 := by decide
  have H1 : Hid (∀ A c W, Prs W W.heap.size A exP → Calls Try.prog 22 #[.slice A exP.length c] W fun e W' => e = .returned (.tuple #[.int .i64 16, .int .i64 0]) ∧ Below W.heap.size W W') := fun A c W hP => by
    have := Twice_any A c exP hl W hP
    rw [ex_tw, ex_err] at this
    exact this
  have H2 : Hid (∀ A c W, Prs W W.heap.size A exP → Calls Try.prog 37 #[.slice A exP.length c] W fun e W' => e = .returned (.tuple #[.int .i64 96, .int .i64 52, .int .i64 0]) ∧ Below W.heap.size W W') := fun A c W hP => by
    have := First_any A c exP hl W hP
    rw [ex_fx, ex_fy, ex_err] at this
    exact this
  have H3 : Hid (∀ A c W, Prs W W.heap.size A exP → Calls Try.prog 19 #[.slice A exP.length c] W fun e W' => e = .returned (.tuple #[.int .i64 2, .int .i64 14, .int .i64 0]) ∧ Below W.heap.size W W') := fun A c W hP => by
    have := Points_any A c exP hl W hP
    rw [ex_in, ex_on, ex_err] at this
    exact this
  have H4 : Hid (∀ A c W, Prs W W.heap.size A exP → Calls Try.prog 17 #[.slice A exP.length c, .agg #[.int .i64 2, .int .i64 2]] W fun e W' => e = .returned (.tuple #[.int .i64 3, .int .i64 0]) ∧ Below W.heap.size W W') := fun A c W hP => by
    have := Where_any A c exP hl 2 2 W hP
    rw [ex_wh.1, ex_wh.2] at this
    exact this
  have HE : Hid (∀ W, Calls Try.prog 45 #[] W fun e W' => ∃ A c, e = .returned (.slice A exP.length c) ∧ Hid (Prs W' W'.heap.size A exP) ∧ Below W.heap.size W W') := fun W => (Example_any W).mono fun e W' ⟨A, c, h1, h2, h3⟩ => ⟨A, c, h1, h2, h3⟩
  generalize exP.length = n at *
  clear hl
  go_enter Try.func15, Try.ntmps15
  go_wp2_with fail
  refine (HE.out _).mono ?_
  rintro e w1 ⟨A, c, rfl, hP1, hB1⟩
  go_wp2_with fail
  refine (H1.out A c _ hP1.out).mono ?_
  rintro e w2 ⟨rfl, hb⟩
  have hP2 := Lib.hid (prs_keep hP1.out hb)
  have hB2 : Below w.heap.size w w2 := hB1.trans (hb.mono hB1.size)
  clear hb hP1
  go_wp2_with fail
  refine (H2.out A c _ hP2.out).mono ?_
  rintro e w3 ⟨rfl, hb⟩
  have hP3 := Lib.hid (prs_keep hP2.out hb)
  have hB3 : Below w.heap.size w w3 := hB2.trans (hb.mono hB2.size)
  clear hb hP2
  go_wp2_with fail
  refine (H3.out A c _ hP3.out).mono ?_
  rintro e w4 ⟨rfl, hb⟩
  have hP4 := Lib.hid (prs_keep hP3.out hb)
  have hB4 : Below w.heap.size w w4 := hB3.trans (hb.mono hB3.size)
  clear hb hP3
  go_wp2_with fail
  refine (H4.out A c _ hP4.out).mono ?_
  rintro e w5 ⟨rfl, hb⟩
  have hB5 : Below w.heap.size w w5 := hB4.trans (hb.mono hB4.size)
  clear hb hP4
  go_wp2_with fail
  go_returns
  exact ⟨rfl, hB5⟩
end Go.Proofs.Ytkfnngcphcfbjaa
