/- Whether two rows of numbers are the same, by the reference. -/
import Derived.Test.YtkmacpkjobdffaaGreatIntsB
namespace Go.Proofs.YtkmacpkjobdffaaGreat
open Go.RowKit
set_option maxHeartbeats 1000000 in
theorem SameInts_any (v v' : Value) (xs ys : List Int) (w : World) (hx : Ints w w.heap.size v xs) (hy : Ints w w.heap.size v' ys) (hlx : xs.length ≤ 1000000000) (hly : ys.length ≤ 1000000000) :
    Calls Tryz.prog 21 #[v, v'] w fun e w' => e = .returned (.bool (decide (xs = ys))) ∧ Below w.heap.size w w' := by
  have hform : ∃ A c, v = .slice A xs.length c := by
    rcases hx with ⟨rfl, rfl⟩ | ⟨b, off, cap, rfl, _⟩
    · exact ⟨none, 0, rfl⟩
    · exact ⟨_, _, rfl⟩
  have hform' : ∃ A c, v' = .slice A ys.length c := by
    rcases hy with ⟨rfl, rfl⟩ | ⟨b, off, cap, rfl, _⟩
    · exact ⟨none, 0, rfl⟩
    · exact ⟨_, _, rfl⟩
  obtain ⟨A, c, hv⟩ := hform
  obtain ⟨A', c', hv'⟩ := hform'
  have HX := Lib.hid hx
  have HY := Lib.hid hy
  clear hx hy
  subst hv hv'
  by_cases hlen : xs.length = ys.length
  · have HL := Lib.hid hlen
    have hlB : ((xs.length : Int) != (ys.length : Int)) = false := by simp; omega
    have hle : (xs.length : Int) ≤ ys.length ∧ (ys.length : Int) ≤ xs.length := by omega
    clear hlen
    go_enter Tryz.func21, Tryz.ntmps21
    go_wp2_with fail
    go_loopw [5] (fun x wr => ∃ k : Nat, (k : Int) ≤ xs.length ∧ x = .int .i64 k ∧ Below w.heap.size w wr ∧ Hid (∀ i, i < k → xs[i]? = ys[i]?)) (fun x _ => xs.length - (intOf x).toNat)
    case atStart => exact ⟨0, by omega, rfl, Below.refl _ _, fun i hi => by omega⟩
    case round =>
      clear hlB
      obtain ⟨k, hk, rfl, hB, hsame⟩ := hrel
      have hkn := Int.natCast_nonneg k
      by_cases hlt : (k : Int) < xs.length
      · have hkx : k < xs.length := by omega
        have hky : k < ys.length := by omega
        rcases HX.out with ⟨_, e⟩ | ⟨b, off, cap, e, hb, hc⟩
        · subst e; simp at hkx
        · rcases HY.out with ⟨_, e'⟩ | ⟨b', off', cap', e', hb', hc'⟩
          · subst e'; simp at hky
          · have hxk : xs[k]? = some xs[k] := List.getElem?_eq_getElem hkx
            have hyk : ys[k]? = some ys[k] := List.getElem?_eq_getElem hky
            have c0 := (hB.cell (p := ⟨b, off + k, none⟩) hb).trans (hc k _ hxk)
            have c1 := (hB.cell (p := ⟨b', off' + k, none⟩) hb').trans (hc' k _ hyk)
            injection e with eA _ ec
            injection e' with eA' _ ec'
            subst eA ec eA' ec'
            have HXK := Lib.hid hxk
            have HYK := Lib.hid hyk
            clear hc hc' hxk hyk
            generalize xs[k] = x at *
            generalize ys[k] = y at *
            have hx0 : (k : Int) < ys.length := by omega
            go_wp2_with fail
            go_quiet (fail)
            by_cases hxy : x = y
            · have hxB : (x != y) = false := by simpa using hxy
              have HXY := Lib.hid hxy
              clear hxy
              go_wp2_with fail
              go_roundw
              case rel => exact ⟨k + 1, by omega, by go_num, below_drewN hB _, fun i hi => by
                by_cases e : i = k
                · subst e
                  rw [HXK.out, HYK.out, HXY.out]
                · exact hsame.out i (by omega)⟩
              case measure => simp [intOf]; omega
            · have hxB : (x != y) = true := by simpa using hxy
              have hne : Hid (¬ xs = ys) := fun e => by
                have h1 := HXK.out
                rw [e, HYK.out] at h1
                injection h1 with h1
                exact hxy h1.symm
              clear hxy
              go_wp2_with fail
              go_returns
              exact ⟨ret_b (by simpa using hne.out), below_drewN hB _⟩
      · have heq : Hid (xs = ys) := by
          refine List.ext_getElem? fun i => ?_
          by_cases hi : i < k
          · exact hsame.out i hi
          · rw [List.getElem?_eq_none (by omega), List.getElem?_eq_none (by omega)]
        go_wp2_with fail
        go_returns
        exact ⟨ret_b (by simpa using heq.out), hB⟩
  · have hlB : ((xs.length : Int) != (ys.length : Int)) = true := by simp; omega
    have hne : Hid (¬ xs = ys) := fun e => hlen (by rw [e])
    clear hlen
    go_enter Tryz.func21, Tryz.ntmps21
    go_wp2_with fail
    all_goals first | (exfalso; omega) | (go_returns; exact ⟨ret_b (by simpa using hne.out), Below.refl _ _⟩)
end Go.Proofs.YtkmacpkjobdffaaGreat
