/- Contracts of Seen: of package arms, and of the specification. -/
import Derived.Test.YtfjcmmdfipppoaaSeenA
namespace Go.Proofs.Ytfjcmmdfipppoaa
open Go.RowKit
namespace Ver
/-- The lines below k that fit. -/
def seenU (p s n : Int) : Nat → List Int
  | 0 => []
  | k + 1 => if fitB p s n k = true then seenU p s n k ++ [(k : Int)] else seenU p s n k
theorem seenU_yes {p s n : Int} {k : Nat} (h : fitB p s n k = true) : seenU p s n (k + 1) = seenU p s n k ++ [(k : Int)] := by rw [seenU, if_pos h]
theorem seenU_no {p s n : Int} {k : Nat} (h : fitB p s n k = false) : seenU p s n (k + 1) = seenU p s n k := by rw [seenU, if_neg (by simp [h])]
theorem seenU_len (p s n : Int) (k : Nat) : (seenU p s n k).length ≤ k := by
  induction k with
  | zero => simp [seenU]
  | succ k ih => unfold seenU; split <;> (try simp) <;> omega
def seenE (p s n : Int) : Int := if ¬ vP p s then 12 else if ¬ (0 ≤ n ∧ n ≤ 10000) then 1 else 0
def seenV (p s n : Int) : List Int := if vP p s ∧ (0 ≤ n ∧ n ≤ 10000) then seenU p s n p.toNat else []
theorem seenE_ver {p s n : Int} (h : ¬ vP p s) : seenE p s n = 12 := if_pos h
theorem seenE_arg {p s n : Int} (h : vP p s) (h2 : ¬ (0 ≤ n ∧ n ≤ 10000)) : seenE p s n = 1 := by unfold seenE; rw [if_neg (fun e => e h), if_pos h2]
theorem seenE_ok {p s n : Int} (h : vP p s) (h2 : 0 ≤ n ∧ n ≤ 10000) : seenE p s n = 0 := by unfold seenE; rw [if_neg (fun e => e h), if_neg (fun e => e h2)]
theorem seenV_ok {p s n : Int} (h : vP p s) (h2 : 0 ≤ n ∧ n ≤ 10000) : seenV p s n = seenU p s n p.toNat := if_pos ⟨h, h2⟩
theorem seenV_err {p s n : Int} (h : ¬ (vP p s ∧ (0 ≤ n ∧ n ≤ 10000))) : seenV p s n = [] := if_neg h
theorem seenV_len (p s n : Int) : (seenV p s n).length ≤ 50 := by
  unfold seenV
  split
  · rename_i h
    have := seenU_len p s n p.toNat
    have := h.1.1
    omega
  · simp
end Ver

set_option maxRecDepth 100000 in
set_option maxHeartbeats 2000000 in
theorem Seen_any (p s n : Int) (w : World) :
    Calls Try.prog 33 #[.agg #[.int .i64 p, .int .i64 s], .int .i64 n] w (SomeInts (Ver.seenV p s n) (Ver.seenE p s n) w) := by
  by_cases hv : Ver.vP p s
  · by_cases hn : 0 ≤ n ∧ n ≤ 10000
    · have hE := Lib.hid (Ver.seenE_ok hv hn)
      have hV := Lib.hid (Ver.seenV_ok hv hn)
      have HV := Lib.hid hv
      obtain ⟨n0, n1⟩ := hn
      unfold Ver.vP at hv
      go_enter Try.func33, Try.ntmps33
      go_wp2_with fail
      refine (checkVernier_any p s _).mono ?_
      rintro e w1 ⟨rfl, hb1⟩
      rw [Ver.vE_yes HV.out]
      have hB1 : Below w.heap.size w w1 := Below.trans (by (repeat' (first | (with_reducible exact Below.refl _ _) | (with_reducible assumption) | (with_reducible refine Below.alloc ?_ ?_ _) | (with_reducible refine below_drewN ?_ _) | (with_reducible refine Below.drew ?_) | (with_reducible refine Below.setCell ?_ ?_ _) | go_size))) (hb1.mono (by first | omega | (simp; done) | (simp; omega))); have hz1 := hb1.size; try simp at hz1
      have hl1v : w.heap.size < w1.heap.size := (by omega); have hx1v0 : w1.cell? ⟨w.heap.size, 0, none⟩ = some (.int .i64 (p)) := (by rw [(hb1.cell (by first | omega | (simp; done) | (simp; omega)))]; (repeat (rw [World.cell?_alloc_lt _ _ _ (by first | omega | (simp; done) | (simp; omega))])); go_cell); have hx1v1 : w1.cell? ⟨w.heap.size, 1, none⟩ = some (.int .i64 (s)) := (by rw [(hb1.cell (by first | omega | (simp; done) | (simp; omega)))]; (repeat (rw [World.cell?_alloc_lt _ _ _ (by first | omega | (simp; done) | (simp; omega))])); go_cell)
      go_wp2_with fail
      clear hb1
      go_loopw [7, 22] (fun v x wr => ∃ k : Nat, (k : Int) ≤ p ∧ x = .int .i64 k ∧ Below w.heap.size w wr ∧ w.heap.size < wr.heap.size ∧ wr.cell? ⟨w.heap.size, 0, none⟩ = some (.int .i64 p) ∧ wr.cell? ⟨w.heap.size, 1, none⟩ = some (.int .i64 s) ∧
        wr.ownsRow (w.heap.size + 1) 3 1 v (Ver.seenU p s n k).length ((Ver.seenU p s n k).map (Value.int .i64))) (fun _ x _ => (p - intOf x).toNat)
      case atStart => exact ⟨0, by omega, rfl, hB1, by omega, hx1v0, hx1v1, own_nil _ _⟩
      case round =>
        clear hx1v0 hx1v1 hl1v hB1
        obtain ⟨k, hk, rfl, hB, hz, p0, p1, hown⟩ := hrel
        have hk0 : (0 : Int) ≤ (k : Int) := Int.natCast_nonneg k
        have HO := Lib.hid hown
        clear hown
        by_cases hlt : (k : Int) < p
        · have hul := Ver.seenU_len p s n k
          go_wp2_with fail
          refine (fits_any p s n k _ HV.out n0 n1 hk0 hlt).mono ?_
          rintro e w3 ⟨rfl, hb3⟩
          have hz3 := hb3.size
          try simp at hz3
          have q0 : w3.cell? ⟨w.heap.size, 0, none⟩ = some (.int .i64 p) := (hb3.cell (by simpa using hz)).trans p0
          have q1 : w3.cell? ⟨w.heap.size, 1, none⟩ = some (.int .i64 s) := (hb3.cell (by simpa using hz)).trans p1
          have hB3 : Below w.heap.size w w3 := hB.trans (hb3.mono hB.size)
          have hz3 : w.heap.size < w3.heap.size := by omega
          have HO3 := Lib.hid (own_below HO.out hb3)
          clear p0 p1 hB hz hb3 HO
          cases hfit : Ver.fitB p s n k
          · have hno := Lib.hid (Ver.seenU_no hfit)
            clear hfit
            go_wp2_with fail
            go_roundw
            case rel => exact ⟨k + 1, by omega, by go_num, hB3, hz3, q0, q1, by rw [hno.out]; exact HO3.out⟩
            case measure => simp [intOf]; omega
          · have hyes := Lib.hid (Ver.seenU_yes hfit)
            clear hfit
            go_wp2_with (at_builtin; refine wpList_push rfl (.tmp 29) (.tmp 31) rfl (k : Int) (w.heap.size + 1) u7 _ _ rfl rfl HO3.out (by omega) (by omega) ?_; intro v' w4 hown4 hb4; have HO4 := Lib.hid hown4; clear hown4)
            go_roundw
            case rel =>
              refine ⟨k + 1, by omega, by go_num, hB3.trans (hb4.mono (by omega)), by have := hb4.size; omega, (hb4.cell (by simp)).trans q0, (hb4.cell (by simp)).trans q1, ?_⟩
              rw [hyes.out]
              simpa using HO4.out
            case measure => simp [intOf]; omega
        · have ek : p.toNat = k := by omega
          have EK := Lib.hid ek
          clear ek
          go_wp2_with fail
          go_ret2
          exact ⟨_, by rw [hE.out]; rfl, by rw [hV.out, EK.out]; exact HO.out.mono (by omega), hB⟩
    · have hE := Lib.hid (Ver.seenE_arg hv hn)
      have hV := Lib.hid (Ver.seenV_err (n := n) (fun h => hn h.2) : Ver.seenV p s n = [])
      have HV := Lib.hid hv
      by_cases hneg : n < 0
      all_goals
        go_enter Try.func33, Try.ntmps33
        go_wp2_with fail
        refine (checkVernier_any p s _).mono ?_
        rintro e w1 ⟨rfl, hb1⟩
        rw [Ver.vE_yes HV.out]
        have hB1 : Below w.heap.size w w1 := Below.trans (by (repeat' (first | (with_reducible exact Below.refl _ _) | (with_reducible assumption) | (with_reducible refine Below.alloc ?_ ?_ _) | (with_reducible refine below_drewN ?_ _) | (with_reducible refine Below.drew ?_) | (with_reducible refine Below.setCell ?_ ?_ _) | go_size))) (hb1.mono (by first | omega | (simp; done) | (simp; omega))); have hz1 := hb1.size; try simp at hz1
        go_wp2_with fail
        go_ret2
        exact ⟨.slice none 0 0, by rw [hE.out]; rfl, by rw [hV.out]; exact own_nil _ _, hB1⟩
  · have hE := Lib.hid (Ver.seenE_ver (n := n) hv)
    have hV := Lib.hid (Ver.seenV_err (n := n) (fun h => hv h.1) : Ver.seenV p s n = [])
    have HV := Lib.hid hv
    clear hv
    go_enter Try.func33, Try.ntmps33
    go_wp2_with fail
    refine (checkVernier_any p s _).mono ?_
    rintro e w1 ⟨rfl, hb1⟩
    rw [Ver.vE_no HV.out]
    have hB1 : Below w.heap.size w w1 := Below.trans (by (repeat' (first | (with_reducible exact Below.refl _ _) | (with_reducible assumption) | (with_reducible refine Below.alloc ?_ ?_ _) | (with_reducible refine below_drewN ?_ _) | (with_reducible refine Below.drew ?_) | (with_reducible refine Below.setCell ?_ ?_ _) | go_size))) (hb1.mono (by first | omega | (simp; done) | (simp; omega))); have hz1 := hb1.size; try simp at hz1
    go_wp2_with fail
    go_ret2
    exact ⟨.slice none 0 0, by rw [hE.out]; rfl, by rw [hV.out]; exact own_nil _ _, hB1⟩

set_option maxRecDepth 100000 in
set_option maxHeartbeats 2000000 in
theorem refSeen_any (p s n : Int) (w : World) :
    Calls Try.prog 34 #[.agg #[.int .i64 p, .int .i64 s], .int .i64 n] w (SomeInts (Ver.seenV p s n) (Ver.seenE p s n) w) := by
  by_cases hv : Ver.vP p s
  · by_cases hn : 0 ≤ n ∧ n ≤ 10000
    · have hE := Lib.hid (Ver.seenE_ok hv hn)
      have hV := Lib.hid (Ver.seenV_ok hv hn)
      have HV := Lib.hid hv
      obtain ⟨n0, n1⟩ := hn
      unfold Ver.vP at hv
      go_enter Try.func34, Try.ntmps34
      go_wp2_with fail
      refine (IsVernier_any p s _).mono ?_
      rintro e w1 ⟨rfl, hb1⟩
      rw [Ver.vB_true.2 HV.out]
      have hB1 : Below w.heap.size w w1 := Below.trans (by (repeat' (first | (with_reducible exact Below.refl _ _) | (with_reducible assumption) | (with_reducible refine Below.alloc ?_ ?_ _) | (with_reducible refine below_drewN ?_ _) | (with_reducible refine Below.drew ?_) | (with_reducible refine Below.setCell ?_ ?_ _) | go_size))) (hb1.mono (by first | omega | (simp; done) | (simp; omega))); have hz1 := hb1.size; try simp at hz1
      have hl1v : w.heap.size < w1.heap.size := (by omega); have hx1v0 : w1.cell? ⟨w.heap.size, 0, none⟩ = some (.int .i64 (p)) := (by rw [(hb1.cell (by first | omega | (simp; done) | (simp; omega)))]; (repeat (rw [World.cell?_alloc_lt _ _ _ (by first | omega | (simp; done) | (simp; omega))])); go_cell); have hx1v1 : w1.cell? ⟨w.heap.size, 1, none⟩ = some (.int .i64 (s)) := (by rw [(hb1.cell (by first | omega | (simp; done) | (simp; omega)))]; (repeat (rw [World.cell?_alloc_lt _ _ _ (by first | omega | (simp; done) | (simp; omega))])); go_cell)
      go_wp2_with fail
      refine (Within_yes ⟨n0, n1⟩ _).mono ?_
      rintro e w2 ⟨rfl, rfl⟩
      go_wp2_with fail
      clear hb1
      go_loopw [6, 7] (fun v x wr => ∃ k : Nat, (k : Int) ≤ p ∧ x = .int .i64 k ∧ Below w.heap.size w wr ∧ w.heap.size < wr.heap.size ∧ wr.cell? ⟨w.heap.size, 0, none⟩ = some (.int .i64 p) ∧ wr.cell? ⟨w.heap.size, 1, none⟩ = some (.int .i64 s) ∧
        wr.ownsRow (w.heap.size + 1) 3 1 v (Ver.seenU p s n k).length ((Ver.seenU p s n k).map (Value.int .i64))) (fun _ x _ => (p - intOf x).toNat)
      case atStart => exact ⟨0, by omega, rfl, hB1, by omega, hx1v0, hx1v1, own_nil _ _⟩
      case round =>
        clear hx1v0 hx1v1 hl1v hB1
        obtain ⟨k, hk, rfl, hB, hz, p0, p1, hown⟩ := hrel
        have hk0 : (0 : Int) ≤ (k : Int) := Int.natCast_nonneg k
        have HO := Lib.hid hown
        clear hown
        by_cases hlt : (k : Int) < p
        · have hul := Ver.seenU_len p s n k
          go_wp2_with fail
          refine (Fits_any p s n k _ HV.out n0 n1 hk0 hlt).mono ?_
          rintro e w3 ⟨rfl, hb3⟩
          have hz3 := hb3.size
          try simp at hz3
          have q0 : w3.cell? ⟨w.heap.size, 0, none⟩ = some (.int .i64 p) := (hb3.cell (by simpa using hz)).trans p0
          have q1 : w3.cell? ⟨w.heap.size, 1, none⟩ = some (.int .i64 s) := (hb3.cell (by simpa using hz)).trans p1
          have hB3 : Below w.heap.size w w3 := hB.trans (hb3.mono hB.size)
          have hz3 : w.heap.size < w3.heap.size := by omega
          have HO3 := Lib.hid (own_below HO.out hb3)
          clear p0 p1 hB hz hb3 HO
          cases hfit : Ver.fitB p s n k
          · have hno := Lib.hid (Ver.seenU_no hfit)
            clear hfit
            go_wp2_with fail
            go_roundw
            case rel => exact ⟨k + 1, by omega, by go_num, hB3, hz3, q0, q1, by rw [hno.out]; exact HO3.out⟩
            case measure => simp [intOf]; omega
          · have hyes := Lib.hid (Ver.seenU_yes hfit)
            clear hfit
            go_wp2_with (at_builtin; refine wpList_push rfl (.tmp 24) (.tmp 26) rfl (k : Int) (w.heap.size + 1) u6 _ _ rfl rfl HO3.out (by omega) (by omega) ?_; intro v' w4 hown4 hb4; have HO4 := Lib.hid hown4; clear hown4)
            go_roundw
            case rel =>
              refine ⟨k + 1, by omega, by go_num, hB3.trans (hb4.mono (by omega)), by have := hb4.size; omega, (hb4.cell (by simp)).trans q0, (hb4.cell (by simp)).trans q1, ?_⟩
              rw [hyes.out]
              simpa using HO4.out
            case measure => simp [intOf]; omega
        · have ek : p.toNat = k := by omega
          have EK := Lib.hid ek
          clear ek
          go_wp2_with fail
          go_ret2
          exact ⟨_, by rw [hE.out]; rfl, by rw [hV.out, EK.out]; exact HO.out.mono (by omega), hB⟩
    · have hE := Lib.hid (Ver.seenE_arg hv hn)
      have hV := Lib.hid (Ver.seenV_err (n := n) (fun h => hn h.2) : Ver.seenV p s n = [])
      have HV := Lib.hid hv
      by_cases hneg : n < 0
      all_goals
        go_enter Try.func34, Try.ntmps34
        go_wp2_with fail
        refine (IsVernier_any p s _).mono ?_
        rintro e w1 ⟨rfl, hb1⟩
        rw [Ver.vB_true.2 HV.out]
        have hB1 : Below w.heap.size w w1 := Below.trans (by (repeat' (first | (with_reducible exact Below.refl _ _) | (with_reducible assumption) | (with_reducible refine Below.alloc ?_ ?_ _) | (with_reducible refine below_drewN ?_ _) | (with_reducible refine Below.drew ?_) | (with_reducible refine Below.setCell ?_ ?_ _) | go_size))) (hb1.mono (by first | omega | (simp; done) | (simp; omega))); have hz1 := hb1.size; try simp at hz1
        go_wp2_with fail
        refine (Within_no hn _).mono ?_
        rintro e w2 ⟨rfl, rfl⟩
        go_wp2_with fail
        go_ret2
        exact ⟨.slice none 0 0, by rw [hE.out]; rfl, by rw [hV.out]; exact own_nil _ _, hB1⟩
  · have hE := Lib.hid (Ver.seenE_ver (n := n) hv)
    have hV := Lib.hid (Ver.seenV_err (n := n) (fun h => hv h.1) : Ver.seenV p s n = [])
    have HV := Lib.hid hv
    clear hv
    go_enter Try.func34, Try.ntmps34
    go_wp2_with fail
    refine (IsVernier_any p s _).mono ?_
    rintro e w1 ⟨rfl, hb1⟩
    rw [Ver.vB_false.2 HV.out]
    have hB1 : Below w.heap.size w w1 := Below.trans (by (repeat' (first | (with_reducible exact Below.refl _ _) | (with_reducible assumption) | (with_reducible refine Below.alloc ?_ ?_ _) | (with_reducible refine below_drewN ?_ _) | (with_reducible refine Below.drew ?_) | (with_reducible refine Below.setCell ?_ ?_ _) | go_size))) (hb1.mono (by first | omega | (simp; done) | (simp; omega))); have hz1 := hb1.size; try simp at hz1
    go_wp2_with fail
    go_ret2
    exact ⟨.slice none 0 0, by rw [hE.out]; rfl, by rw [hV.out]; exact own_nil _ _, hB1⟩
end Go.Proofs.Ytfjcmmdfipppoaa
