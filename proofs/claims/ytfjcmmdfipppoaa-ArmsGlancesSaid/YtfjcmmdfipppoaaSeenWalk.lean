/- Seen and Settings of package arms return for any vernier, steps and glances what the specification returns, and leave the glances as they were. No condition beyond the statement's own: at most 20 glances are looked at. -/
import Derived.Test.YtfjcmmdfipppoaaSeenD
import Derived.Test.YtfjcmmdfipppoaaPairs
import Derived.Test.YtfjcmmdfipppoaaArmsS
namespace Go.Proofs.Ytfjcmmdfipppoaa
open Go.RowKit
theorem glance_info : (Try.prog.info? 53).map (fun i => (i.zero, i.size, i.bytes)) = some (some (.agg #[.int .i64 0, .int .i64 0]), 2, 16) := by kernel_rfl
theorem gls_prs {w : World} {B : Nat} {A : Option Addr} {gs : List (Int × Int)} : Gls w B A gs ↔ Prs w B A gs := Iff.rfl
theorem own_form {w : World} {B : Nat} {e : TypeId} {v : Value} {n : Nat} {xs : List Value} (h : w.ownsRow B e 2 v n xs) : ∃ A c, v = .slice A n c := by
  rcases h.2 with ⟨rfl, rfl⟩ | ⟨g, cap, cur, rfl, _⟩
  · exact ⟨none, 0, rfl⟩
  · exact ⟨some ⟨g, 0, none⟩, cap, rfl⟩
/-- 'append([]Glance{}, l...)': a copy in new memory. -/
theorem wpList_copy {ops : Array Oper} {rest : List Oper} {o : Oper} {a : Act} {Q : Exit → Act → World → Prop} {wr : World} (hgd : o.guard = none) (s y : Operand)
    (ho : o.op = .call { callee := .builtin .append, args := #[s, y], argTypes := #[46, 46] }) (A : Option Addr) (c : Nat) (gs : List (Int × Int)) (g : Nat) (hsz : g = wr.heap.size)
    (hs : a.eval s = .slice (some ⟨g, 0, none⟩) 0 0) (hx : a.eval y = .slice A gs.length c) (hg : Prs wr wr.heap.size A gs) (hn : gs.length ≤ 1000000000)
    (h : ∀ A' c' w', w'.ownsRow wr.heap.size 53 2 (.slice A' gs.length c') gs.length (flat gs) → Below wr.heap.size wr w' → wpList Try.prog ops Q rest (a.put o.dst (.slice A' gs.length c')) w') :
    wpList Try.prog ops Q (o :: rest) a (wr.alloc (.cells #[] 53)) := by
  subst hsz
  obtain ⟨i0, hi0, hz0, hz1, hz2⟩ := info_parts glance_info
  have hb0 : Below wr.heap.size wr (wr.alloc (.cells #[] 53)) := (Below.refl _ _).alloc (Nat.le_refl _) _
  refine wpList_append_any _ hgd s y 46 ho wr.heap.size 53 i0 (.agg #[.int .i64 0, .int .i64 0]) 2 16 Try.underlying46 hi0 hz0 hz1 hz2 rfl (by decide) (.slice (some ⟨wr.heap.size, 0, none⟩) 0 0) 0 [] hs
    (World.ownsRow_made wr #[] 0 (Nat.le_refl _) (by simp [maxLen]) rfl) wr.heap.size A gs.length c (flat gs) hx (hg.keep hb0).reads (flat_one gs) (by simp only [maxLen]; omega) (by omega) (by simp) ?_
  intro v' w' hown hgr hat
  rw [Nat.zero_add, List.nil_append] at hown
  obtain ⟨A', c', rfl⟩ := own_form hown
  exact h A' c' w' hown (hb0.grown hgr (by simp) (fun j hj => by
    have : j = wr.heap.size := by simpa [Value.ownBlock] using hj.symm
    omega))

theorem gls_of_own {w : World} {B : Nat} {e : TypeId} {A : Option Addr} {c : Nat} {gs : List (Int × Int)} (h : w.ownsRow B e 2 (.slice A gs.length c) gs.length (flat gs)) : Gls w w.heap.size A gs :=
  Prs.of_reads (Reads.of_own h)
theorem ints_keep {w w' : World} {v : Value} {xs : List Int} (h : Ints w w.heap.size v xs) (hb : Below w.heap.size w w') : Ints w' w'.heap.size v xs := (h.keep hb).more hb.size

set_option maxRecDepth 100000 in
set_option maxHeartbeats 4000000 in
theorem lawSeen_short (p s n : Int) (A : Option Addr) (c : Nat) (gs : List (Int × Int)) (w : World) (hl : (gs.length : Int) ≤ 20) (hg : Gls w w.heap.size A gs) :
    Calls Try.prog 6 #[.agg #[.int .i64 p, .int .i64 s], .int .i64 n, .slice A gs.length c] w fun e w' => e = .returned (.bool true) ∧ Below w.heap.size w w' := by
  have hlB : decide ((20 : Int) < (gs.length : Int)) = false := by simp; omega
  have hl20 : gs.length ≤ 20 := by omega
  have HG := Lib.hid hg
  have L1 := Ver.seenV_len p s n
  have L2 := Ver.setV_len p s gs
  clear hg
  go_enter Try.func6, Try.ntmps6
  go_wp2_with (at_builtin; go_must (refine wpList_copy rfl (.tmp 21) (.tmp 22) rfl A c gs (w.heap.size + 1) (by simp) rfl rfl (gls_prs.1 (gls_keep HG.out ((Below.refl _ _).alloc (Nat.le_refl _) _))) (by omega) ?_; intro A' c' w1 hown1 hb1; have HO1 := Lib.hid (gls_of_own hown1); clear hown1; have hB1 : Below w.heap.size w w1 := Below.trans (by (repeat' (first | (with_reducible exact Below.refl _ _) | (with_reducible assumption) | (with_reducible refine Below.alloc ?_ ?_ _) | (with_reducible refine below_drewN ?_ _) | (with_reducible refine Below.drew ?_) | (with_reducible refine Below.setCell ?_ ?_ _) | go_size))) (hb1.mono (by first | omega | (simp; done) | (simp; omega))); have hz1 := hb1.size; try simp at hz1; have hl1v : w.heap.size < w1.heap.size := (by omega); have hx1v0 : w1.cell? ⟨w.heap.size, 0, none⟩ = some (.int .i64 (p)) := (by rw [(hb1.cell (by first | omega | (simp; done) | (simp; omega)))]; (repeat (rw [World.cell?_alloc_lt _ _ _ (by first | omega | (simp; done) | (simp; omega))])); go_cell); have hx1v1 : w1.cell? ⟨w.heap.size, 1, none⟩ = some (.int .i64 (s)) := (by rw [(hb1.cell (by first | omega | (simp; done) | (simp; omega)))]; (repeat (rw [World.cell?_alloc_lt _ _ _ (by first | omega | (simp; done) | (simp; omega))])); go_cell)))
  refine (Seen_any p s n _).mono ?_
  rintro e w2 ⟨v2, rfl, hown2, hb2⟩
  have hB2 : Below w.heap.size w w2 := Below.trans (by (repeat' (first | (with_reducible exact Below.refl _ _) | (with_reducible assumption) | (with_reducible refine Below.alloc ?_ ?_ _) | (with_reducible refine below_drewN ?_ _) | (with_reducible refine Below.drew ?_) | (with_reducible refine Below.setCell ?_ ?_ _) | go_size))) (hb2.mono (by first | omega | (simp; done) | (simp; omega))); have hz2 := hb2.size; try simp at hz2
  have hl2v : w.heap.size < w2.heap.size := (by omega); have hx2v0 : w2.cell? ⟨w.heap.size, 0, none⟩ = some (.int .i64 (p)) := (by rw [(hb2.cell (by first | omega | (simp; done) | (simp; omega)))]; (repeat (rw [World.cell?_alloc_lt _ _ _ (by first | omega | (simp; done) | (simp; omega))])); go_cell); have hx2v1 : w2.cell? ⟨w.heap.size, 1, none⟩ = some (.int .i64 (s)) := (by rw [(hb2.cell (by first | omega | (simp; done) | (simp; omega)))]; (repeat (rw [World.cell?_alloc_lt _ _ _ (by first | omega | (simp; done) | (simp; omega))])); go_cell)
  have I2 := Lib.hid (Ints.of_own hown2)
  have HO2 := Lib.hid (gls_keep HO1.out hb2)
  clear hown2 HO1 hx1v0 hx1v1
  go_wp2_with fail
  refine (refSeen_any p s n _).mono ?_
  rintro e w3 ⟨v3, rfl, hown3, hb3⟩
  have hB3 : Below w.heap.size w w3 := Below.trans (by (repeat' (first | (with_reducible exact Below.refl _ _) | (with_reducible assumption) | (with_reducible refine Below.alloc ?_ ?_ _) | (with_reducible refine below_drewN ?_ _) | (with_reducible refine Below.drew ?_) | (with_reducible refine Below.setCell ?_ ?_ _) | go_size))) (hb3.mono (by first | omega | (simp; done) | (simp; omega))); have hz3 := hb3.size; try simp at hz3
  have hl3v : w.heap.size < w3.heap.size := (by omega); have hx3v0 : w3.cell? ⟨w.heap.size, 0, none⟩ = some (.int .i64 (p)) := (by rw [(hb3.cell (by first | omega | (simp; done) | (simp; omega)))]; (repeat (rw [World.cell?_alloc_lt _ _ _ (by first | omega | (simp; done) | (simp; omega))])); go_cell); have hx3v1 : w3.cell? ⟨w.heap.size, 1, none⟩ = some (.int .i64 (s)) := (by rw [(hb3.cell (by first | omega | (simp; done) | (simp; omega)))]; (repeat (rw [World.cell?_alloc_lt _ _ _ (by first | omega | (simp; done) | (simp; omega))])); go_cell)
  have I3 := Lib.hid (Ints.of_own hown3)
  have I2' := Lib.hid (ints_keep I2.out hb3)
  have HO3 := Lib.hid (gls_keep HO2.out hb3)
  clear hown3 HO2 I2 hx2v0 hx2v1
  go_wp2_with fail
  refine (Settings_any p s A' c' gs _ (by omega) HO3.out).mono ?_
  rintro e w4 ⟨v4, rfl, hown4, hb4⟩
  have hB4 : Below w.heap.size w w4 := Below.trans (by (repeat' (first | (with_reducible exact Below.refl _ _) | (with_reducible assumption) | (with_reducible refine Below.alloc ?_ ?_ _) | (with_reducible refine below_drewN ?_ _) | (with_reducible refine Below.drew ?_) | (with_reducible refine Below.setCell ?_ ?_ _) | go_size))) (hb4.mono (by first | omega | (simp; done) | (simp; omega))); have hz4 := hb4.size; try simp at hz4
  have hl4v : w.heap.size < w4.heap.size := (by omega); have hx4v0 : w4.cell? ⟨w.heap.size, 0, none⟩ = some (.int .i64 (p)) := (by rw [(hb4.cell (by first | omega | (simp; done) | (simp; omega)))]; (repeat (rw [World.cell?_alloc_lt _ _ _ (by first | omega | (simp; done) | (simp; omega))])); go_cell); have hx4v1 : w4.cell? ⟨w.heap.size, 1, none⟩ = some (.int .i64 (s)) := (by rw [(hb4.cell (by first | omega | (simp; done) | (simp; omega)))]; (repeat (rw [World.cell?_alloc_lt _ _ _ (by first | omega | (simp; done) | (simp; omega))])); go_cell)
  have J4 := Lib.hid (Ints.of_own hown4)
  have I2 := Lib.hid (ints_keep I2'.out hb4)
  have I3' := Lib.hid (ints_keep I3.out hb4)
  have HO4 := Lib.hid (gls_keep HO3.out hb4)
  clear hown4 HO3 I2' I3 hx3v0 hx3v1
  go_wp2_with fail
  refine (refSettings_any p s A c gs _ (by omega) (gls_keep HG.out hB4)).mono ?_
  rintro e w5 ⟨v5, rfl, hown5, hb5⟩
  have hB5 : Below w.heap.size w w5 := Below.trans (by (repeat' (first | (with_reducible exact Below.refl _ _) | (with_reducible assumption) | (with_reducible refine Below.alloc ?_ ?_ _) | (with_reducible refine below_drewN ?_ _) | (with_reducible refine Below.drew ?_) | (with_reducible refine Below.setCell ?_ ?_ _) | go_size))) (hb5.mono (by first | omega | (simp; done) | (simp; omega))); have hz5 := hb5.size; try simp at hz5
  have J5 := Lib.hid (Ints.of_own hown5)
  have J4' := Lib.hid (ints_keep J4.out hb5)
  have I2' := Lib.hid (ints_keep I2.out hb5)
  have I3 := Lib.hid (ints_keep I3'.out hb5)
  have HO5 := Lib.hid (gls_keep HO4.out hb5)
  clear hown5 HO4 I2 I3' J4 hx4v0 hx4v1
  go_wp2_with fail
  refine (SameInts_any v2 v3 _ _ _ I2'.out I3.out (by omega) (by omega)).mono ?_
  rintro e w6 ⟨rfl, hb6⟩
  have hB6 : Below w.heap.size w w6 := Below.trans (by (repeat' (first | (with_reducible exact Below.refl _ _) | (with_reducible assumption) | (with_reducible refine Below.alloc ?_ ?_ _) | (with_reducible refine below_drewN ?_ _) | (with_reducible refine Below.drew ?_) | (with_reducible refine Below.setCell ?_ ?_ _) | go_size))) (hb6.mono (by first | omega | (simp; done) | (simp; omega))); have hz6 := hb6.size; try simp at hz6
  have J5' := Lib.hid (ints_keep J5.out hb6)
  have J4 := Lib.hid (ints_keep J4'.out hb6)
  have HO6 := Lib.hid (gls_keep HO5.out hb6)
  clear I2' I3 J5 J4' HO5
  go_wp2_with fail
  refine (SameInts_any v4 v5 _ _ _ J4.out J5'.out (by omega) (by omega)).mono ?_
  rintro e w7 ⟨rfl, hb7⟩
  have hB7 : Below w.heap.size w w7 := Below.trans (by (repeat' (first | (with_reducible exact Below.refl _ _) | (with_reducible assumption) | (with_reducible refine Below.alloc ?_ ?_ _) | (with_reducible refine below_drewN ?_ _) | (with_reducible refine Below.drew ?_) | (with_reducible refine Below.setCell ?_ ?_ _) | go_size))) (hb7.mono (by first | omega | (simp; done) | (simp; omega))); have hz7 := hb7.size; try simp at hz7
  have HO7 := Lib.hid (gls_keep HO6.out hb7)
  have HG7 := Lib.hid (gls_keep HG.out hB7)
  clear J4 J5' HO6 HG hb1 hb2 hb3 hb4 hb5 hb6 hb7 hB1 hB2 hB3 hB4 hB5 hB6
  go_wp2_with fail
  go_loopw [16] (fun x wr => ∃ k : Nat, (k : Int) ≤ gs.length ∧ x = .int .i64 k ∧ Below w7.heap.size w7 wr) (fun x _ => (gs.length - intOf x).toNat)
  case atStart => exact ⟨0, by omega, rfl, Below.refl _ _⟩
  case round =>
    obtain ⟨k, hk, rfl, hB⟩ := hrel
    have hk0 := Int.natCast_nonneg k
    by_cases hlt : (k : Int) < gs.length
    · have hkl : k < gs.length := by omega
      have hgk : gs[k]? = some gs[k] := List.getElem?_eq_getElem hkl
      obtain ⟨b, off, rfl, hb, hc⟩ := HG7.out (by omega)
      obtain ⟨b', off', rfl, hb', hc'⟩ := HO7.out (by omega)
      have d0 := (hB.cell (p := ⟨b, off + k * 2, none⟩) hb).trans (hc k _ hgk).1
      have d1 := (hB.cell (p := ⟨b, off + k * 2 + 1, none⟩) hb).trans (hc k _ hgk).2
      have d2 := (hB.cell (p := ⟨b', off' + k * 2, none⟩) hb').trans (hc' k _ hgk).1
      have d3 := (hB.cell (p := ⟨b', off' + k * 2 + 1, none⟩) hb').trans (hc' k _ hgk).2
      clear hc hc' hgk HG7 HO7
      generalize gs[k] = g at *
      go_wp2_with fail
      go_quiet (fail)
      go_wp2_with fail
      go_roundw
      case rel => exact ⟨k + 1, by omega, by go_num, below_drewN hB _⟩
      case measure => simp [intOf]; omega
    · go_wp2_with fail
      refine (works_any _).mono ?_
      rintro e w8 ⟨rfl, hb8⟩
      have hB8 : Below w.heap.size w w8 := hB7.trans ((hB.mono hB7.size).trans (hb8.mono (by have := hB.size; have := hB7.size; omega)))
      go_wp2_with fail
      go_returns
      exact ⟨rfl, hB8⟩
end Go.Proofs.Ytfjcmmdfipppoaa
