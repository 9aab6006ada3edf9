/- Trials: whether some gain shows an area as a number. -/
import Derived.Test.YtkmacpkjobdffaaTiP
namespace Go.Proofs.Ytkmacpkjobdffaa
open Go.RowKit Go.Maps
namespace Ti
theorem any_take_no {P : Int → Bool} {L : List Int} {k : Nat} {z : Int} (hz : L[k]? = some z) (h : (L.take k).any P = false) (hp : P z = false) : (L.take (k + 1)).any P = false := by
  rw [List.take_add_one, List.any_append, h, hz]
  simp [hp]
theorem any_yes {P : Int → Bool} {L : List Int} {k : Nat} {z : Int} (hz : L[k]? = some z) (hp : P z = true) : L.any P = true := List.any_eq_true.2 ⟨z, List.mem_of_getElem? hz, hp⟩
end Ti
set_option maxRecDepth 100000 in
set_option maxHeartbeats 4000000 in
theorem indexFunc_any (g : FuncId) (c1 c2 : Value) (P : Int → Bool) (HE : ∀ args W, (callFunc g args).run Try.prog W = .ok (.enter g args) W) (L : List Int) (A : Option Addr) (c : Nat) (w : World) (hl : L.length ≤ 1000000000) (hI : Ints w w.heap.size (.slice A L.length c) L)
    (HO : Hid (∀ (z : Int) W, z ∈ L → Below w.heap.size w W → Calls Try.prog g #[.int .i64 z, c1, c2] W fun e w' => e = .returned (.bool (P z)) ∧ Below W.heap.size W w')) :
    Calls Try.prog 75 #[.slice A L.length c, .func (.func g) #[] #[c1, c2]] w fun e w' => (∃ n : Int, e = .returned (.int .i64 n) ∧ decide (0 ≤ n) = L.any P) ∧ Below w.heap.size w w' := by
  have HI := Lib.hid hI
  clear hI
  go_enter Try.func75, Try.ntmps75
  go_wp2_with fail
  go_loopw [5, 8] (fun x5 x8 wr => ∃ k : Nat, (k : Int) ≤ L.length ∧ x8 = .int .i64 (k : Int) ∧ Below w.heap.size w wr ∧ Hid ((L.take k).any P = false)) (fun _ x8 _ => (L.length - intOf x8).toNat)
  case atStart => exact ⟨0, by omega, rfl, Below.refl _ _, by simp [Hid]⟩
  case round =>
    obtain ⟨k, hk, rfl, hB, hN⟩ := hrel
    have hk0 := Int.natCast_nonneg k
    by_cases hlt : (k : Int) < L.length
    · have hkn : k < L.length := by omega
      have hgk : L[k]? = some L[k] := List.getElem?_eq_getElem hkn
      obtain ⟨b, off, hA, hb, hc⟩ : ∃ b off, A = some ⟨b, off, none⟩ ∧ b < w.heap.size ∧ ∀ (k : Nat) (x : Int), L[k]? = some x → w.cell? ⟨b, off + k, none⟩ = some (.int .i64 x) := by
        rcases HI.out with ⟨e, e2⟩ | ⟨b, off, cap, e, h1, h2⟩
        · rw [e2] at hkn; simp at hkn
        · injection e with e1 e2 e3; exact ⟨b, off, e1, h1, h2⟩
      subst hA
      have y0 := (hB.cell (p := ⟨b, _, none⟩) hb).trans (hc _ _ hgk)
      have HOk := Lib.hid (fun W (h : Below wr.heap.size wr W) => HO.out L[k] W (List.mem_of_getElem? hgk) (hB.trans (h.mono hB.size)))
      have hbr : b < wr.heap.size := by have := hB.size; omega
      have hw1 : IntKind.i64.wrap ((k : Int) + 1) = (k : Int) + 1 := IntWalk.i64_in _ (by omega)
      have hy := fun h => Lib.hid (Ti.any_yes (P := P) hgk h)
      have hn := fun h => Lib.hid (Ti.any_take_no (P := P) hgk hN.out h)
      clear hc hgk
      generalize L[k] = z at *
      cases hp : P z
      · have hn1 := hn hp
        rw [hp] at HOk
        clear hn hy hp hN
        go_wp2_with fail
        refine (HOk.out _ (Below.refl _ _)).mono ?_
        rintro e w2 ⟨rfl, hb2⟩
        have hB2 := hB.trans (hb2.mono hB.size)
        clear y0
        go_wp2_with fail
        go_roundw
        case rel => exact ⟨k + 1, by omega, by go_num, hB2, hn1⟩
        case measure => simp [intOf]; omega
      · have hy1 := hy hp
        rw [hp] at HOk
        clear hn hy hp hN
        go_wp2_with fail
        refine (HOk.out _ (Below.refl _ _)).mono ?_
        rintro e w2 ⟨rfl, hb2⟩
        have hB2 := hB.trans (hb2.mono hB.size)
        clear y0
        go_wp2_with fail
        go_returns
        exact ⟨⟨k, rfl, by rw [hy1.out]; exact decide_eq_true hk0⟩, hB2⟩
    · have hN1 : Hid (L.any P = false) := by
        have h := hN.out
        rwa [List.take_of_length_le (by omega)] at h
      go_wp2_with fail
      go_returns
      exact ⟨⟨-1, rfl, by rw [hN1.out]; rfl⟩, hB⟩
set_option maxHeartbeats 4000000 in
theorem containsFunc_any (g : FuncId) (c1 c2 : Value) (P : Int → Bool) (HE : ∀ args W, (callFunc g args).run Try.prog W = .ok (.enter g args) W) (L : List Int) (A : Option Addr) (c : Nat) (w : World) (hl : L.length ≤ 1000000000) (hI : Ints w w.heap.size (.slice A L.length c) L)
    (HO : Hid (∀ (z : Int) W, z ∈ L → Below w.heap.size w W → Calls Try.prog g #[.int .i64 z, c1, c2] W fun e w' => e = .returned (.bool (P z)) ∧ Below W.heap.size W w')) :
    Calls Try.prog 59 #[.slice A L.length c, .func (.func g) #[] #[c1, c2]] w fun e w' => e = .returned (.bool (L.any P)) ∧ Below w.heap.size w w' := by
  have H := Lib.hid (indexFunc_any g c1 c2 P HE L A c w hl hI HO)
  clear hI HO
  go_enter Try.func59, Try.ntmps59
  go_wp2_with fail
  refine H.out.mono ?_
  rintro e w2 ⟨⟨n, rfl, hn⟩, hb2⟩
  have hn := Lib.hid hn
  cases hd : decide (0 ≤ n)
  · go_wp2_with fail
    go_returns
    exact ⟨by rw [← hn.out, hd]; rfl, hb2⟩
  · go_wp2_with fail
    go_returns
    exact ⟨by rw [← hn.out, hd]; rfl, hb2⟩
end Go.Proofs.Ytkmacpkjobdffaa
