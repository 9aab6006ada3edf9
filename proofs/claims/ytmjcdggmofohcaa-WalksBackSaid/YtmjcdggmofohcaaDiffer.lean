/- Contract of differ of package corners: all corners within reach, no two equal. -/
import Derived.Test.YtmjcdggmofohcaaSeenMap
import Derived.Test.YtmjcdggmofohcaaGeo
import Derived.Test.YtmjcdggmofohcaaPairs
namespace Go.Proofs.Ytmjcdggmofohcaa
open Go.RowKit
namespace Geo
def difP (l : List (Int × Int)) : Prop := (∀ p ∈ l, ptB p = true) ∧ l.Nodup
instance difDec (l : List (Int × Int)) : Decidable (difP l) := by unfold difP; exact inferInstance
def difB (l : List (Int × Int)) : Bool := decide (difP l)
theorem pt_sm {p : Int × Int} (h : ptB p = true) : sm p := by
  unfold ptB at h
  rw [Bool.and_eq_true, inB_true, inB_true] at h
  unfold sm
  omega
theorem difP_take {l : List (Int × Int)} {k : Nat} {p : Int × Int} (hp : l[k]? = some p) (h : difP (l.take k)) (h1 : ptB p = true) (h2 : p ∉ l.take k) : difP (l.take (k + 1)) := by
  rw [List.take_add_one, hp]
  refine ⟨fun q hq => ?_, ?_⟩
  · rcases List.mem_append.1 hq with h3 | h3
    · exact h.1 q h3
    · simp at h3; subst h3; exact h1
  · rw [List.nodup_append]
    refine ⟨h.2, by simp, fun a ha b hb => ?_⟩
    simp at hb
    subst hb
    intro e
    subst e
    exact h2 ha
theorem difB_no {l : List (Int × Int)} {k : Nat} {p : Int × Int} (hp : l[k]? = some p) (h : ptB p = false ∨ p ∈ l.take k) : difB l = false := by
  unfold difB
  rw [decide_eq_false_iff_not]
  rintro ⟨h1, h2⟩
  rcases h with h | h
  · rw [h1 p (List.mem_of_getElem? hp)] at h; cases h
  · have e := List.take_append_drop k l
    rw [← e, List.nodup_append] at h2
    exact h2.2.2 _ h _ (List.mem_of_getElem? (i := 0) (by rw [List.getElem?_drop]; exact hp)) rfl
theorem difB_yes {l : List (Int × Int)} (h : difP l) : difB l = true := by unfold difB; simpa using h
end Geo

set_option maxRecDepth 100000 in
set_option maxHeartbeats 2000000 in
theorem differ_any (A : Option Addr) (c : Nat) (ps : List (Int × Int)) (w : World) (hl : ps.length ≤ 100) (hg : Prs w w.heap.size A ps) :
    Calls Try.prog 75 #[.slice A ps.length c] w fun e w' => e = .returned (.bool (Geo.difB ps)) ∧ Below w.heap.size w w' := by
  have HG := Lib.hid hg
  have hmm := @run_makeMap Try.prog
  clear hg
  go_enter Try.func75, Try.ntmps75
  go_wp2_with fail
  clear hmm
  go_loopw [9] (fun x wr => ∃ k : Nat, (k : Int) ≤ ps.length ∧ x = .int .i64 k ∧ Below w.heap.size w wr ∧ Hid (Seen wr w.heap.size (ps.take k)) ∧ Hid (Geo.difP (ps.take k))) (fun x _ => (ps.length - intOf x).toNat)
  case atStart => exact ⟨0, by omega, rfl, by (repeat' (first | (with_reducible exact Below.refl _ _) | (with_reducible assumption) | (with_reducible refine Below.alloc ?_ ?_ _) | (with_reducible refine below_drewN ?_ _) | (with_reducible refine Below.drew ?_) | (with_reducible refine Below.setCell ?_ ?_ _) | go_size)), Seen.made w, ⟨by simp, by simp⟩⟩
  case round =>
    obtain ⟨k, hk, rfl, hB, hS, hD⟩ := hrel
    have hk0 := Int.natCast_nonneg k
    by_cases hlt : (k : Int) < ps.length
    · have hkl : k < ps.length := by omega
      have hgk : ps[k]? = some ps[k] := List.getElem?_eq_getElem hkl
      obtain ⟨b, off, rfl, hb, hc⟩ := HG.out (by omega)
      have d0 := (hB.cell (p := ⟨b, off + k * 2, none⟩) hb).trans (hc k _ hgk).1
      have d1 := (hB.cell (p := ⟨b, off + k * 2 + 1, none⟩) hb).trans (hc k _ hgk).2
      have hbr : b < wr.heap.size := by have := hB.size; omega
      have hzs := hS.out.lt
      have HK := Lib.hid hgk
      clear hc hgk HG hb
      generalize ps[k] = p at *
      obtain ⟨x, y⟩ := p
      dsimp only at d0 d1
      go_wp2_with fail
      refine (inReach_any x y _).mono ?_
      rintro e w1 ⟨rfl, hb1⟩
      have hB1 : Below w.heap.size w w1 := Below.trans (by (repeat' (first | (with_reducible exact Below.refl _ _) | (with_reducible assumption) | (with_reducible refine Below.alloc ?_ ?_ _) | (with_reducible refine below_drewN ?_ _) | (with_reducible refine Below.drew ?_) | (with_reducible refine Below.setCell ?_ ?_ _) | go_size))) (hb1.mono (by first | omega | (simp; done) | (simp; omega)))
      have hz1 := hb1.size
      simp at hz1
      have q0 : w1.cell? ⟨wr.heap.size, 0, none⟩ = some (.int .i64 x) := by rw [(hb1.cell (by first | omega | (simp; done) | (simp; omega)))]; (repeat (rw [World.cell?_alloc_lt _ _ _ (by first | omega | (simp; done) | (simp; omega))])); go_cell
      have q1 : w1.cell? ⟨wr.heap.size, 1, none⟩ = some (.int .i64 y) := by rw [(hb1.cell (by first | omega | (simp; done) | (simp; omega)))]; (repeat (rw [World.cell?_alloc_lt _ _ _ (by first | omega | (simp; done) | (simp; omega))])); go_cell
      have hS1 : Hid (Seen w1 w.heap.size (ps.take k)) := (hS.out.below ((Below.refl _ _).alloc (Nat.le_refl _) _)).below hb1
      clear d0 d1 hb1 hB hS
      cases hpt : Geo.ptB (x, y)
      · have hno := Lib.hid (Geo.difB_no HK.out (.inl hpt))
        clear hpt
        go_wp2_with fail
        go_returns
        exact ⟨ret_b hno.out.symm, hB1⟩
      · have hsm := Geo.pt_sm hpt
        have hlook := hS1.out.look hsm
        by_cases hin : (x, y) ∈ ps.take k
        · have hno := Lib.hid (Geo.difB_no HK.out (.inr hin))
          rw [decide_eq_true hin] at hlook
          clear hin hpt
          go_wp2_with fail
          go_returns
          exact ⟨ret_b hno.out.symm, hB1⟩
        · have hD1 := Lib.hid (Geo.difP_take HK.out hD.out hpt hin)
          have htk : Hid (ps.take (k + 1) = ps.take k ++ [(x, y)]) := by rw [List.take_add_one, HK.out]; rfl
          rw [decide_eq_false hin] at hlook
          obtain ⟨w2, hput, hS2, hg2⟩ := hS1.out.put hsm (by have := List.length_take_le k ps; omega)
          have HS2 := Lib.hid hS2
          have hB2 : Below w.heap.size w w2 := hB1.grown hg2 hB1.size (fun j hj => by injection hj with hj; omega)
          clear hin hpt hS2 hg2
          go_wp2_with fail
          go_roundw
          case rel => exact ⟨k + 1, by omega, by go_num, hB2, by rw [htk.out]; exact HS2, hD1⟩
          case measure => simp [intOf]; omega
    · have hyes := Lib.hid (Geo.difB_yes (l := ps) (by have := hD.out; rwa [List.take_of_length_le (by omega)] at this))
      go_wp2_with fail
      go_returns
      exact ⟨ret_b hyes.out.symm, hB⟩
end Go.Proofs.Ytmjcdggmofohcaa
