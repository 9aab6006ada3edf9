/- Wheels: a number in a slice, and a slice within another one. -/
import Derived.Test.YtecmlakcpgkfbaaWhI
namespace Go.Proofs.Ytecmlakcpgkfbaa
open Go.RowKit
theorem ints_form {w : World} {B : Nat} {v : Value} {xs : List Int} (h : Ints w B v xs) : ∃ A c, v = .slice A xs.length c := by
  rcases h with ⟨rfl, rfl⟩ | ⟨b, off, cap, rfl, _⟩
  · exact ⟨none, 0, rfl⟩
  · exact ⟨_, cap, rfl⟩

set_option maxHeartbeats 1000000 in
theorem In_any (v : Value) (xs : List Int) (n : Int) (w : World) (hx : Ints w w.heap.size v xs) (hl : xs.length ≤ 1000000000) :
    Calls Try.prog 37 #[v, .int .i64 n] w fun e w' => e = .returned (.bool (decide (n ∈ xs))) ∧ w' = w := by
  obtain ⟨A, c, rfl⟩ := ints_form hx
  have HX := Lib.hid hx
  clear hx
  go_enter Try.func37, Try.ntmps37
  go_wp2_with fail
  go_loop [5] (fun x => ∃ k : Nat, (k : Int) ≤ xs.length ∧ x = .int .i64 k ∧ Hid (∀ i y, i < k → xs[i]? = some y → y ≠ n)) (fun x => (xs.length - intOf x).toNat)
  case atStart => exact ⟨0, by omega, rfl, fun i y hi => by omega⟩
  case round =>
    obtain ⟨k, hk, rfl, hall⟩ := hrel
    have hk0 := Int.natCast_nonneg k
    by_cases hlt : (k : Int) < xs.length
    · have hkl : k < xs.length := by omega
      have hgk : xs[k]? = some xs[k] := List.getElem?_eq_getElem hkl
      rcases HX.out with ⟨_, e⟩ | ⟨b, off, cap, e, hb, hc⟩
      · subst e; simp at hkl
      · injection e with eA _ ec
        subst eA ec
        have c0 := hc k _ hgk
        have HK := Lib.hid hgk
        clear hc hgk HX
        generalize xs[k] = x at *
        by_cases hxn : x = n
        · have hxB : (x == n) = true := by simpa using hxn
          have hin : Hid (n ∈ xs) := by rw [← hxn]; exact List.mem_of_getElem? HK.out
          clear hxn
          go_wp2_with fail
          go_ret
          exact ⟨ret_b (by simpa using hin.out), rfl⟩
        · have hxB : (x == n) = false := by simpa using hxn
          have hne := Lib.hid hxn
          clear hxn
          go_wp2_with fail
          go_round
          case rel => exact ⟨k + 1, by omega, by go_num, fun i y hi hy => by
            by_cases e : i = k
            · subst e
              rw [HK.out] at hy
              injection hy with hy
              subst hy
              exact hne.out
            · exact hall.out i y (by omega) hy⟩
          case measure => simp [intOf]; omega
    · have hno : Hid (¬ n ∈ xs) := fun h => by
        obtain ⟨i, hi, e⟩ := List.getElem_of_mem h
        exact hall.out i n (by omega) (by rw [← e]; exact List.getElem?_eq_getElem hi) rfl
      go_wp2_with fail
      go_ret
      exact ⟨ret_b (by simpa using hno.out), rfl⟩

set_option maxRecDepth 100000 in
set_option maxHeartbeats 4000000 in
theorem subset3_yes (v : Value) (xs : List Int) (u : Value) (ys : List Int) (w : World) (hv : Ints w w.heap.size v xs) (hu : Ints w w.heap.size u ys) (hl : xs.length ≤ 1000000000) (hl2 : ys.length ≤ 1000000000) (hs : ∀ x ∈ xs, x ∈ ys) (hn : xs.length ≤ ys.length) :
    Calls Try.prog 40 #[v, u] w fun e w' => e = .returned (.bool true) ∧ Below w.heap.size w w' := by
  have hform : ∃ A c, v = .slice A xs.length c := by
    rcases hv with ⟨rfl, rfl⟩ | ⟨b, off, cap, rfl, _⟩
    · exact ⟨none, 0, rfl⟩
    · exact ⟨_, _, rfl⟩
  obtain ⟨A, c, hva⟩ := hform
  have hform2 : ∃ A c, u = .slice A ys.length c := by
    rcases hu with ⟨rfl, rfl⟩ | ⟨b, off, cap, rfl, _⟩
    · exact ⟨none, 0, rfl⟩
    · exact ⟨_, _, rfl⟩
  obtain ⟨A2, c2, hua⟩ := hform2
  have HIN : Hid (∀ (x : Int) W, x ∈ xs → Below w.heap.size w W → Calls Try.prog 37 #[.slice A2 ys.length c2, .int .i64 x] W fun e w' => e = .returned (.bool true) ∧ Below W.heap.size W w') := fun x W hx hW =>
    (In_any (.slice A2 ys.length c2) ys x W (Ints.more (Ints.keep (by rw [hua] at hu; exact hu : Ints w w.heap.size (.slice A2 ys.length c2) ys) hW) hW.size) hl2).mono (fun e w' h => ⟨by rw [h.1, decide_eq_true (hs x hx)], by rw [h.2]; exact Below.refl _ _⟩)
  have HX := Lib.hid hv
  have hll : (xs.length : Int) ≤ 1000000000 := by omega
  have hll2 : (ys.length : Int) ≤ 1000000000 := by omega
  have hnn : (xs.length : Int) ≤ ys.length := by omega
  clear hv hu hs
  subst hva hua
  go_enter Try.func40, Try.ntmps40
  go_wp2_with fail
  go_loopw [5] (fun x wr => ∃ k : Nat, (k : Int) ≤ xs.length ∧ x = .int .i64 k ∧ Below w.heap.size w wr) (fun x _ => xs.length - (intOf x).toNat)
  case atStart => exact ⟨0, by omega, rfl, Below.refl _ _⟩
  case round =>
    obtain ⟨k, hk, rfl, hB⟩ := hrel
    have hkn := Int.natCast_nonneg k
    by_cases hlt : (k : Int) < xs.length
    · have hkx : k < xs.length := by omega
      rcases HX.out with ⟨_, e⟩ | ⟨b, off, cap, e, hb, hc⟩
      · subst e; simp at hkx
      · have hxk : xs[k]? = some xs[k] := List.getElem?_eq_getElem hkx
        have c0 := (hB.cell (p := ⟨b, off + k, none⟩) hb).trans (hc k _ hxk)
        have HI := Lib.hid (HIN.out xs[k] wr (List.getElem_mem hkx) hB)
        injection e with eA _ ec
        subst eA ec
        have hw1 : IntKind.i64.wrap ((k : Int) + 1) = (k : Int) + 1 := IntWalk.i64_in _ (by omega)
        clear hc hxk HIN
        generalize xs[k] = x at *
        go_wp2_with fail
        refine HI.out.mono ?_
        rintro e9 w9 ⟨rfl, hb9⟩
        have hB9 := hB.trans (hb9.mono hB.size)
        go_wp2_with fail
        go_roundw
        case rel => exact ⟨k + 1, by omega, by go_num, hB9⟩
        case measure => simp [intOf]; omega
    · go_wp2_with fail
      go_returns
      exact ⟨rfl, hB⟩
end Go.Proofs.Ytecmlakcpgkfbaa
