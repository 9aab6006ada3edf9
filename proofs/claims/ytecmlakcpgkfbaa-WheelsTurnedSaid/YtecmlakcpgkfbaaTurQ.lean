/- Wheels: walks that tell the same: senses and sides exchanged, readings turned on, another order. -/
import Derived.Test.YtecmlakcpgkfbaaOneW
namespace Go.Proofs.Ytecmlakcpgkfbaa
open Go.RowKit
namespace Wh
theorem wkAt_range (f : Nat → Wk) {k j : Nat} (hj : j < k) : wkAt ((List.range k).map f) j = f j := by
  unfold wkAt
  rw [List.getElem?_map, List.getElem?_range hj]
  rfl
theorem ws_range (ws : List Wk) : (List.range ws.length).map (wkAt ws) = ws := by
  apply List.ext_getElem?
  intro i
  rw [List.getElem?_map]
  by_cases h : i < ws.length
  · rw [List.getElem?_range h, List.getElem?_eq_getElem h]
    show some (wkAt ws i) = some ws[i]
    rw [wkAt_eq (List.getElem?_eq_getElem h)]
  · rw [List.getElem?_eq_none (by simpa using h), List.getElem?_eq_none (by omega)]
    rfl
def bkL (ws : List Wk) (k : Nat) : List Wk := (List.range k).map fun j => backW (wkAt ws j)
def ltL (full b y : Int) (ws : List Wk) (k : Nat) : List Wk := (List.range k).map fun j => if ((j : Nat) : Int) = y then laterW full b (wkAt ws j) else wkAt ws j
def tnL (r n : Nat) (ws : List Wk) (k : Nat) : List Wk := (List.range k).map fun j => wkAt ws ((j + r) % n)
theorem bkL_succ (ws : List Wk) (k : Nat) : bkL ws (k + 1) = bkL ws k ++ [backW (wkAt ws k)] := by unfold bkL; rw [List.range_succ, List.map_append]; rfl
theorem ltL_yes (full b y : Int) (ws : List Wk) (k : Nat) (h : (k : Int) = y) : ltL full b y ws (k + 1) = ltL full b y ws k ++ [laterW full b (wkAt ws k)] := by
  unfold ltL
  rw [List.range_succ, List.map_append, List.map_cons, List.map_nil, if_pos h]
theorem ltL_no (full b y : Int) (ws : List Wk) (k : Nat) (h : ¬ (k : Int) = y) : ltL full b y ws (k + 1) = ltL full b y ws k ++ [wkAt ws k] := by
  unfold ltL
  rw [List.range_succ, List.map_append, List.map_cons, List.map_nil, if_neg h]
theorem tnL_succ (r n : Nat) (ws : List Wk) (k : Nat) : tnL r n ws (k + 1) = tnL r n ws k ++ [wkAt ws ((k + r) % n)] := by unfold tnL; rw [List.range_succ, List.map_append]; rfl
theorem bkL_len (ws : List Wk) (k : Nat) : (bkL ws k).length = k := by simp [bkL]
theorem ltL_len (full b y : Int) (ws : List Wk) (k : Nat) : (ltL full b y ws k).length = k := by simp [ltL]
theorem tnL_len (r n : Nat) (ws : List Wk) (k : Nat) : (tnL r n ws k).length = k := by simp [tnL]
theorem rot_perm (r n : Nat) : ((List.range n).map fun j => (j + r) % n).Perm (List.range n) := by
  refine (List.perm_ext_iff_of_nodup ?_ List.nodup_range).2 fun a => ?_
  · refine List.pairwise_map.2 (List.pairwise_lt_range.imp_of_mem (fun {i j} hi hj hij => ?_))
    have hi' := List.mem_range.1 hi
    have hj' := List.mem_range.1 hj
    intro e
    have h1 := Nat.sub_mod_eq_zero_of_mod_eq e.symm
    have e2 : j + r - (i + r) = j - i := by omega
    rw [e2, Nat.mod_eq_of_lt (by omega)] at h1
    omega
  · rw [List.mem_map, List.mem_range]
    constructor
    · rintro ⟨j, hj, rfl⟩
      exact Nat.mod_lt _ (by have := List.mem_range.1 hj; omega)
    · intro ha
      refine ⟨(a + (n - r % n)) % n, List.mem_range.2 (Nat.mod_lt _ (by omega)), ?_⟩
      have h1 := Nat.div_add_mod r n
      have h2 := Nat.mod_lt r (show 0 < n by omega)
      rw [Nat.mod_add_mod, show a + (n - r % n) + r = a + n * (r / n + 1) from by rw [Nat.mul_add]; omega, Nat.add_mul_mod_self_left, Nat.mod_eq_of_lt ha]
theorem back_same {d : Desk} (hd : okB d = true) : Same d ⟨d.full, d.read, d.slip, d.skew, d.circ, d.glo, d.ghi, d.wr, bkL d.ws d.ws.length⟩ := by
  refine same_of hd (bkL_len _ _) (fun j hj => ?_) fun t => ?_
  · rw [bkL_len] at hj
    unfold bkL
    rw [wkAt_range _ hj]
    exact back_ok (ok_wk hd j hj)
  · have e := wrong_same (d := d) (o := ⟨d.full, d.read, d.slip, d.skew, d.circ, d.glo, d.ghi, d.wr, bkL d.ws d.ws.length⟩) (t := t) d.ws.length fun j hj => by
      dsimp only
      unfold bkL
      rw [wkAt_range _ hj]
      exact back_right d _ t
    unfold wrongN
    dsimp only
    rw [bkL_len]
    exact e
theorem later_same {d : Desk} (hd : okB d = true) (b y : Int) : Same d ⟨d.full, d.read, d.slip, d.skew, d.circ, d.glo, d.ghi, d.wr, ltL d.full b y d.ws d.ws.length⟩ := by
  have hf := (ok_of hd).f1
  refine same_of hd (ltL_len _ _ _ _ _) (fun j hj => ?_) fun t => ?_
  · rw [ltL_len] at hj
    unfold ltL
    rw [wkAt_range _ hj]
    split
    · exact later_ok (by omega) b (ok_wk hd j hj)
    · exact ok_wk hd j hj
  · have e := wrong_same (d := d) (o := ⟨d.full, d.read, d.slip, d.skew, d.circ, d.glo, d.ghi, d.wr, ltL d.full b y d.ws d.ws.length⟩) (t := t) d.ws.length fun j hj => by
      dsimp only
      unfold ltL
      rw [wkAt_range _ hj]
      split
      · exact later_right (ok_of hd) b (ok_wk hd j hj) t
      · rfl
    unfold wrongN
    dsimp only
    rw [ltL_len]
    exact e
theorem turn_same {d : Desk} (hd : okB d = true) (r : Nat) : Same d ⟨d.full, d.read, d.slip, d.skew, d.circ, d.glo, d.ghi, d.wr, tnL r d.ws.length d.ws d.ws.length⟩ := by
  refine same_of hd (tnL_len _ _ _ _) (fun j hj => ?_) fun t => ?_
  · rw [tnL_len] at hj
    unfold tnL
    rw [wkAt_range _ hj]
    exact ok_wk hd _ (Nat.mod_lt _ (by omega))
  · rw [wrong_count, wrong_count]
    show List.countP (fun k => !rightB d k t) (tnL r d.ws.length d.ws d.ws.length) = _
    have e : tnL r d.ws.length d.ws d.ws.length = (((List.range d.ws.length).map fun j => (j + r) % d.ws.length)).map (wkAt d.ws) := by
      unfold tnL
      rw [List.map_map]
      rfl
    have p := ((rot_perm r d.ws.length).map (wkAt d.ws)).countP_eq (fun k => !rightB d k t)
    rw [e, p, ws_range]
end Wh
set_option maxRecDepth 100000 in
set_option maxHeartbeats 8000000 in
theorem alike_core (full read slip skew circ glo ghi wrn : Int) (n : Nat) (A A2 : Option Addr) (c c2 : Nat) (w : World) (LA LK : List Int) (E mV : Int) (hla : LA.length ≤ 1000000000) (hlk : LK.length ≤ 1000000000)
    (HA1 : Hid (∀ W, Below w.heap.size w W → Calls Try.prog 20 #[.agg #[.int .i64 full, .int .i64 read, .int .i64 slip, .int .i64 skew, .int .i64 circ, .int .i64 glo, .int .i64 ghi, .int .i64 wrn], .slice A n c] W (IntsEPost LA E W))) (HA2 : Hid (∀ W, Below w.heap.size w W → Calls Try.prog 20 #[.agg #[.int .i64 full, .int .i64 read, .int .i64 slip, .int .i64 skew, .int .i64 circ, .int .i64 glo, .int .i64 ghi, .int .i64 wrn], .slice A2 n c2] W (IntsEPost LA E W)))
    (HK1 : Hid (∀ W, Below w.heap.size w W → Calls Try.prog 25 #[.agg #[.int .i64 full, .int .i64 read, .int .i64 slip, .int .i64 skew, .int .i64 circ, .int .i64 glo, .int .i64 ghi, .int .i64 wrn], .slice A n c] W (IntsEPost LK E W))) (HK2 : Hid (∀ W, Below w.heap.size w W → Calls Try.prog 25 #[.agg #[.int .i64 full, .int .i64 read, .int .i64 slip, .int .i64 skew, .int .i64 circ, .int .i64 glo, .int .i64 ghi, .int .i64 wrn], .slice A2 n c2] W (IntsEPost LK E W)))
    (HM1 : Hid (∀ W, Below w.heap.size w W → Calls Try.prog 18 #[.agg #[.int .i64 full, .int .i64 read, .int .i64 slip, .int .i64 skew, .int .i64 circ, .int .i64 glo, .int .i64 ghi, .int .i64 wrn], .slice A n c] W (TwoPost mV E W))) (HM2 : Hid (∀ W, Below w.heap.size w W → Calls Try.prog 18 #[.agg #[.int .i64 full, .int .i64 read, .int .i64 slip, .int .i64 skew, .int .i64 circ, .int .i64 glo, .int .i64 ghi, .int .i64 wrn], .slice A2 n c2] W (TwoPost mV E W))) :
    Calls Try.prog 41 #[.agg #[.int .i64 full, .int .i64 read, .int .i64 slip, .int .i64 skew, .int .i64 circ, .int .i64 glo, .int .i64 ghi, .int .i64 wrn], .slice A n c, .slice A2 n c2] w fun e w' => e = .returned (.bool true) ∧ Below w.heap.size w w' := by
  go_enter Try.func41, Try.ntmps41
  go_wp2_with fail
  have bS1 := BoxS.new w 25 #[.int .i64 full, .int .i64 read, .int .i64 slip, .int .i64 skew, .int .i64 circ, .int .i64 glo, .int .i64 ghi, .int .i64 wrn]
  have hB1 : Below w.heap.size w (w.alloc (.cells #[.int .i64 full, .int .i64 read, .int .i64 slip, .int .i64 skew, .int .i64 circ, .int .i64 glo, .int .i64 ghi, .int .i64 wrn] 25)) := by (repeat' (first | (with_reducible exact Below.refl _ _) | (with_reducible assumption) | (with_reducible refine Below.alloc ?_ ?_ _) | (with_reducible refine Below.drew ?_) | (with_reducible refine Below.setCell ?_ ?_ _) | go_size | (exact (by simp)) | omega))
  generalize World.alloc w _ = w1 at *
  refine (HA1.out _ hB1).mono ?_
  rintro e w2 ⟨v2, rfl, hv2, hb2⟩
  obtain ⟨AIA, cIA, rfl⟩ := ints_form hv2.out
  have bS2 := bS1.below hb2
  have hB2 := hB1.trans (hb2.mono hB1.size)
  clear bS1 hB1 hb2
  have IA2 : Hid (Ints w2 w2.heap.size (.slice AIA LA.length cIA) LA) := hv2
  clear hv2
  have cs0 : w2.cell? ⟨w.heap.size, 0, none⟩ = some (.int .i64 full) := bS2.cell 0 rfl
  have cs1 : w2.cell? ⟨w.heap.size, 1, none⟩ = some (.int .i64 read) := bS2.cell 1 rfl
  have cs2 : w2.cell? ⟨w.heap.size, 2, none⟩ = some (.int .i64 slip) := bS2.cell 2 rfl
  have cs3 : w2.cell? ⟨w.heap.size, 3, none⟩ = some (.int .i64 skew) := bS2.cell 3 rfl
  have cs4 : w2.cell? ⟨w.heap.size, 4, none⟩ = some (.int .i64 circ) := bS2.cell 4 rfl
  have cs5 : w2.cell? ⟨w.heap.size, 5, none⟩ = some (.int .i64 glo) := bS2.cell 5 rfl
  have cs6 : w2.cell? ⟨w.heap.size, 6, none⟩ = some (.int .i64 ghi) := bS2.cell 6 rfl
  have cs7 : w2.cell? ⟨w.heap.size, 7, none⟩ = some (.int .i64 wrn) := bS2.cell 7 rfl
  have lS2 := bS2.lt
  go_wp2_with fail
  refine (HA2.out _ hB2).mono ?_
  rintro e w3 ⟨v3, rfl, hv3, hb3⟩
  obtain ⟨AIB, cIB, rfl⟩ := ints_form hv3.out
  have bS3 := bS2.below hb3
  have hB3 := hB2.trans (hb3.mono hB2.size)
  have IA3 : Hid (Ints w3 w3.heap.size (.slice AIA LA.length cIA) LA) := (IA2.out.keep hb3).more hb3.size
  clear cs0 cs1 cs2 cs3 cs4 cs5 cs6 cs7 lS2 bS2 IA2 hB2 hb3
  have IB3 : Hid (Ints w3 w3.heap.size (.slice AIB LA.length cIB) LA) := hv3
  clear hv3
  have cs0 : w3.cell? ⟨w.heap.size, 0, none⟩ = some (.int .i64 full) := bS3.cell 0 rfl
  have cs1 : w3.cell? ⟨w.heap.size, 1, none⟩ = some (.int .i64 read) := bS3.cell 1 rfl
  have cs2 : w3.cell? ⟨w.heap.size, 2, none⟩ = some (.int .i64 slip) := bS3.cell 2 rfl
  have cs3 : w3.cell? ⟨w.heap.size, 3, none⟩ = some (.int .i64 skew) := bS3.cell 3 rfl
  have cs4 : w3.cell? ⟨w.heap.size, 4, none⟩ = some (.int .i64 circ) := bS3.cell 4 rfl
  have cs5 : w3.cell? ⟨w.heap.size, 5, none⟩ = some (.int .i64 glo) := bS3.cell 5 rfl
  have cs6 : w3.cell? ⟨w.heap.size, 6, none⟩ = some (.int .i64 ghi) := bS3.cell 6 rfl
  have cs7 : w3.cell? ⟨w.heap.size, 7, none⟩ = some (.int .i64 wrn) := bS3.cell 7 rfl
  have lS3 := bS3.lt
  go_wp2_with fail
  refine (HK1.out _ hB3).mono ?_
  rintro e w4 ⟨v4, rfl, hv4, hb4⟩
  obtain ⟨AIC, cIC, rfl⟩ := ints_form hv4.out
  have bS4 := bS3.below hb4
  have hB4 := hB3.trans (hb4.mono hB3.size)
  have IA4 : Hid (Ints w4 w4.heap.size (.slice AIA LA.length cIA) LA) := (IA3.out.keep hb4).more hb4.size
  have IB4 : Hid (Ints w4 w4.heap.size (.slice AIB LA.length cIB) LA) := (IB3.out.keep hb4).more hb4.size
  clear cs0 cs1 cs2 cs3 cs4 cs5 cs6 cs7 lS3 bS3 IA3 IB3 hB3 hb4
  have IC4 : Hid (Ints w4 w4.heap.size (.slice AIC LK.length cIC) LK) := hv4
  clear hv4
  have cs0 : w4.cell? ⟨w.heap.size, 0, none⟩ = some (.int .i64 full) := bS4.cell 0 rfl
  have cs1 : w4.cell? ⟨w.heap.size, 1, none⟩ = some (.int .i64 read) := bS4.cell 1 rfl
  have cs2 : w4.cell? ⟨w.heap.size, 2, none⟩ = some (.int .i64 slip) := bS4.cell 2 rfl
  have cs3 : w4.cell? ⟨w.heap.size, 3, none⟩ = some (.int .i64 skew) := bS4.cell 3 rfl
  have cs4 : w4.cell? ⟨w.heap.size, 4, none⟩ = some (.int .i64 circ) := bS4.cell 4 rfl
  have cs5 : w4.cell? ⟨w.heap.size, 5, none⟩ = some (.int .i64 glo) := bS4.cell 5 rfl
  have cs6 : w4.cell? ⟨w.heap.size, 6, none⟩ = some (.int .i64 ghi) := bS4.cell 6 rfl
  have cs7 : w4.cell? ⟨w.heap.size, 7, none⟩ = some (.int .i64 wrn) := bS4.cell 7 rfl
  have lS4 := bS4.lt
  go_wp2_with fail
  refine (HK2.out _ hB4).mono ?_
  rintro e w5 ⟨v5, rfl, hv5, hb5⟩
  obtain ⟨AID, cID, rfl⟩ := ints_form hv5.out
  have bS5 := bS4.below hb5
  have hB5 := hB4.trans (hb5.mono hB4.size)
  have IA5 : Hid (Ints w5 w5.heap.size (.slice AIA LA.length cIA) LA) := (IA4.out.keep hb5).more hb5.size
  have IB5 : Hid (Ints w5 w5.heap.size (.slice AIB LA.length cIB) LA) := (IB4.out.keep hb5).more hb5.size
  have IC5 : Hid (Ints w5 w5.heap.size (.slice AIC LK.length cIC) LK) := (IC4.out.keep hb5).more hb5.size
  clear cs0 cs1 cs2 cs3 cs4 cs5 cs6 cs7 lS4 bS4 IA4 IB4 IC4 hB4 hb5
  have ID5 : Hid (Ints w5 w5.heap.size (.slice AID LK.length cID) LK) := hv5
  clear hv5
  have cs0 : w5.cell? ⟨w.heap.size, 0, none⟩ = some (.int .i64 full) := bS5.cell 0 rfl
  have cs1 : w5.cell? ⟨w.heap.size, 1, none⟩ = some (.int .i64 read) := bS5.cell 1 rfl
  have cs2 : w5.cell? ⟨w.heap.size, 2, none⟩ = some (.int .i64 slip) := bS5.cell 2 rfl
  have cs3 : w5.cell? ⟨w.heap.size, 3, none⟩ = some (.int .i64 skew) := bS5.cell 3 rfl
  have cs4 : w5.cell? ⟨w.heap.size, 4, none⟩ = some (.int .i64 circ) := bS5.cell 4 rfl
  have cs5 : w5.cell? ⟨w.heap.size, 5, none⟩ = some (.int .i64 glo) := bS5.cell 5 rfl
  have cs6 : w5.cell? ⟨w.heap.size, 6, none⟩ = some (.int .i64 ghi) := bS5.cell 6 rfl
  have cs7 : w5.cell? ⟨w.heap.size, 7, none⟩ = some (.int .i64 wrn) := bS5.cell 7 rfl
  have lS5 := bS5.lt
  go_wp2_with fail
  refine (HM1.out _ hB5).mono ?_
  rintro e w6 ⟨rfl, hb6⟩
  have bS6 := bS5.below hb6
  have hB6 := hB5.trans (hb6.mono hB5.size)
  have IA6 : Hid (Ints w6 w6.heap.size (.slice AIA LA.length cIA) LA) := (IA5.out.keep hb6).more hb6.size
  have IB6 : Hid (Ints w6 w6.heap.size (.slice AIB LA.length cIB) LA) := (IB5.out.keep hb6).more hb6.size
  have IC6 : Hid (Ints w6 w6.heap.size (.slice AIC LK.length cIC) LK) := (IC5.out.keep hb6).more hb6.size
  have ID6 : Hid (Ints w6 w6.heap.size (.slice AID LK.length cID) LK) := (ID5.out.keep hb6).more hb6.size
  clear cs0 cs1 cs2 cs3 cs4 cs5 cs6 cs7 lS5 bS5 IA5 IB5 IC5 ID5 hB5 hb6
  have cs0 : w6.cell? ⟨w.heap.size, 0, none⟩ = some (.int .i64 full) := bS6.cell 0 rfl
  have cs1 : w6.cell? ⟨w.heap.size, 1, none⟩ = some (.int .i64 read) := bS6.cell 1 rfl
  have cs2 : w6.cell? ⟨w.heap.size, 2, none⟩ = some (.int .i64 slip) := bS6.cell 2 rfl
  have cs3 : w6.cell? ⟨w.heap.size, 3, none⟩ = some (.int .i64 skew) := bS6.cell 3 rfl
  have cs4 : w6.cell? ⟨w.heap.size, 4, none⟩ = some (.int .i64 circ) := bS6.cell 4 rfl
  have cs5 : w6.cell? ⟨w.heap.size, 5, none⟩ = some (.int .i64 glo) := bS6.cell 5 rfl
  have cs6 : w6.cell? ⟨w.heap.size, 6, none⟩ = some (.int .i64 ghi) := bS6.cell 6 rfl
  have cs7 : w6.cell? ⟨w.heap.size, 7, none⟩ = some (.int .i64 wrn) := bS6.cell 7 rfl
  have lS6 := bS6.lt
  go_wp2_with fail
  refine (HM2.out _ hB6).mono ?_
  rintro e w7 ⟨rfl, hb7⟩
  have bS7 := bS6.below hb7
  have hB7 := hB6.trans (hb7.mono hB6.size)
  have IA7 : Hid (Ints w7 w7.heap.size (.slice AIA LA.length cIA) LA) := (IA6.out.keep hb7).more hb7.size
  have IB7 : Hid (Ints w7 w7.heap.size (.slice AIB LA.length cIB) LA) := (IB6.out.keep hb7).more hb7.size
  have IC7 : Hid (Ints w7 w7.heap.size (.slice AIC LK.length cIC) LK) := (IC6.out.keep hb7).more hb7.size
  have ID7 : Hid (Ints w7 w7.heap.size (.slice AID LK.length cID) LK) := (ID6.out.keep hb7).more hb7.size
  clear cs0 cs1 cs2 cs3 cs4 cs5 cs6 cs7 lS6 bS6 IA6 IB6 IC6 ID6 hB6 hb7
  have cs0 : w7.cell? ⟨w.heap.size, 0, none⟩ = some (.int .i64 full) := bS7.cell 0 rfl
  have cs1 : w7.cell? ⟨w.heap.size, 1, none⟩ = some (.int .i64 read) := bS7.cell 1 rfl
  have cs2 : w7.cell? ⟨w.heap.size, 2, none⟩ = some (.int .i64 slip) := bS7.cell 2 rfl
  have cs3 : w7.cell? ⟨w.heap.size, 3, none⟩ = some (.int .i64 skew) := bS7.cell 3 rfl
  have cs4 : w7.cell? ⟨w.heap.size, 4, none⟩ = some (.int .i64 circ) := bS7.cell 4 rfl
  have cs5 : w7.cell? ⟨w.heap.size, 5, none⟩ = some (.int .i64 glo) := bS7.cell 5 rfl
  have cs6 : w7.cell? ⟨w.heap.size, 6, none⟩ = some (.int .i64 ghi) := bS7.cell 6 rfl
  have cs7 : w7.cell? ⟨w.heap.size, 7, none⟩ = some (.int .i64 wrn) := bS7.cell 7 rfl
  have lS7 := bS7.lt
  go_wp2_with fail
  refine (SameInts_any _ _ LA LA _ IA7.out IB7.out hla hla).mono ?_
  rintro e w8 ⟨rfl, hb8⟩
  have bS8 := bS7.below hb8
  have hB8 := hB7.trans (hb8.mono hB7.size)
  have IA8 : Hid (Ints w8 w8.heap.size (.slice AIA LA.length cIA) LA) := (IA7.out.keep hb8).more hb8.size
  have IB8 : Hid (Ints w8 w8.heap.size (.slice AIB LA.length cIB) LA) := (IB7.out.keep hb8).more hb8.size
  have IC8 : Hid (Ints w8 w8.heap.size (.slice AIC LK.length cIC) LK) := (IC7.out.keep hb8).more hb8.size
  have ID8 : Hid (Ints w8 w8.heap.size (.slice AID LK.length cID) LK) := (ID7.out.keep hb8).more hb8.size
  clear cs0 cs1 cs2 cs3 cs4 cs5 cs6 cs7 lS7 bS7 IA7 IB7 IC7 ID7 hB7 hb8
  rw [show decide (LA = LA) = true from decide_eq_true rfl]
  have cs0 : w8.cell? ⟨w.heap.size, 0, none⟩ = some (.int .i64 full) := bS8.cell 0 rfl
  have cs1 : w8.cell? ⟨w.heap.size, 1, none⟩ = some (.int .i64 read) := bS8.cell 1 rfl
  have cs2 : w8.cell? ⟨w.heap.size, 2, none⟩ = some (.int .i64 slip) := bS8.cell 2 rfl
  have cs3 : w8.cell? ⟨w.heap.size, 3, none⟩ = some (.int .i64 skew) := bS8.cell 3 rfl
  have cs4 : w8.cell? ⟨w.heap.size, 4, none⟩ = some (.int .i64 circ) := bS8.cell 4 rfl
  have cs5 : w8.cell? ⟨w.heap.size, 5, none⟩ = some (.int .i64 glo) := bS8.cell 5 rfl
  have cs6 : w8.cell? ⟨w.heap.size, 6, none⟩ = some (.int .i64 ghi) := bS8.cell 6 rfl
  have cs7 : w8.cell? ⟨w.heap.size, 7, none⟩ = some (.int .i64 wrn) := bS8.cell 7 rfl
  have lS8 := bS8.lt
  go_wp2_with fail
  refine (SameInts_any _ _ LK LK _ IC8.out ID8.out hlk hlk).mono ?_
  rintro e w9 ⟨rfl, hb9⟩
  have bS9 := bS8.below hb9
  have hB9 := hB8.trans (hb9.mono hB8.size)
  have IA9 : Hid (Ints w9 w9.heap.size (.slice AIA LA.length cIA) LA) := (IA8.out.keep hb9).more hb9.size
  have IB9 : Hid (Ints w9 w9.heap.size (.slice AIB LA.length cIB) LA) := (IB8.out.keep hb9).more hb9.size
  have IC9 : Hid (Ints w9 w9.heap.size (.slice AIC LK.length cIC) LK) := (IC8.out.keep hb9).more hb9.size
  have ID9 : Hid (Ints w9 w9.heap.size (.slice AID LK.length cID) LK) := (ID8.out.keep hb9).more hb9.size
  clear cs0 cs1 cs2 cs3 cs4 cs5 cs6 cs7 lS8 bS8 IA8 IB8 IC8 ID8 hB8 hb9
  rw [show decide (LK = LK) = true from decide_eq_true rfl]
  have cs0 : w9.cell? ⟨w.heap.size, 0, none⟩ = some (.int .i64 full) := bS9.cell 0 rfl
  have cs1 : w9.cell? ⟨w.heap.size, 1, none⟩ = some (.int .i64 read) := bS9.cell 1 rfl
  have cs2 : w9.cell? ⟨w.heap.size, 2, none⟩ = some (.int .i64 slip) := bS9.cell 2 rfl
  have cs3 : w9.cell? ⟨w.heap.size, 3, none⟩ = some (.int .i64 skew) := bS9.cell 3 rfl
  have cs4 : w9.cell? ⟨w.heap.size, 4, none⟩ = some (.int .i64 circ) := bS9.cell 4 rfl
  have cs5 : w9.cell? ⟨w.heap.size, 5, none⟩ = some (.int .i64 glo) := bS9.cell 5 rfl
  have cs6 : w9.cell? ⟨w.heap.size, 6, none⟩ = some (.int .i64 ghi) := bS9.cell 6 rfl
  have cs7 : w9.cell? ⟨w.heap.size, 7, none⟩ = some (.int .i64 wrn) := bS9.cell 7 rfl
  have lS9 := bS9.lt
  go_wp2_with fail
  go_returns
  exact ⟨rfl, hB9⟩
theorem skews_len (d : Wh.Desk) : (Wh.skewsV d).length ≤ 2000001 := by
  unfold Wh.skewsV
  split
  · obtain ⟨h1, h2⟩ := Wh.all_spec (fun t => t.2) (Wh.truthsL d) (fun t _ => by have := t.2; unfold Wh.tsm at this; first | omega | (dsimp only; omega))
    have hn : (Wh.allL (fun t => t.2) (Wh.truthsL d)).Nodup := h1.imp (fun h => by omega)
    have hsub : Wh.allL (fun t => t.2) (Wh.truthsL d) ⊆ (List.range 2000001).map (fun n : Nat => (n : Int) - 1000000) := fun x hx => by
      obtain ⟨t, ht, rfl⟩ := (h2 x).1 hx
      have := t.2
      unfold Wh.tsm at this
      rw [List.mem_map]
      exact ⟨(t.1.2 + 1000000).toNat, by rw [List.mem_range]; omega, by first | omega | (dsimp only; omega)⟩
    have := hn.length_le_of_subset hsub
    rwa [List.length_map, List.length_range] at this
  · simp
theorem alike_yes (d : Wh.Desk) (vs : List Wh.Wk) (A A2 : Option Addr) (c c2 : Nat) (w : World) (hl : d.ws.length ≤ 1000000000) (hv : vs.length = d.ws.length) (hS : Wh.Same d ⟨d.full, d.read, d.slip, d.skew, d.circ, d.glo, d.ghi, d.wr, vs⟩)
    (hg : Wks w w.heap.size A d.ws) (hg2 : Wks w w.heap.size A2 vs) :
    Calls Try.prog 41 #[.agg (whV d), .slice A d.ws.length c, .slice A2 d.ws.length c2] w fun e w' => e = .returned (.bool true) ∧ Below w.heap.size w w' := by
  have h1 := Wh.areas_len d
  have h2 := skews_len d
  have k1 := fun W (hW : Below w.heap.size w W) => (hg.keep hW).wider hW.size
  have k2 := fun W (hW : Below w.heap.size w W) => (hg2.keep hW).wider hW.size
  refine alike_core d.full d.read d.slip d.skew d.circ d.glo d.ghi d.wr d.ws.length A A2 c c2 w (Wh.areasV d) (Wh.skewsV d) (Wh.spE d) (Wh.manyV d) (by omega) (by omega) (fun W hW => Areas_any d A c W hl (k1 W hW)) (fun W hW => ?_) (fun W hW => Skews_any d A c W hl (k1 W hW)) (fun W hW => ?_) (fun W hW => Many_any d A c W hl (k1 W hW)) (fun W hW => ?_)
  · have := Areas_any ⟨d.full, d.read, d.slip, d.skew, d.circ, d.glo, d.ghi, d.wr, vs⟩ A2 c2 W (by show vs.length ≤ _; omega) (k2 W hW)
    rw [hS.areas, hS.sp] at this
    dsimp only at this
    rw [hv] at this
    exact this
  · have := Skews_any ⟨d.full, d.read, d.slip, d.skew, d.circ, d.glo, d.ghi, d.wr, vs⟩ A2 c2 W (by show vs.length ≤ _; omega) (k2 W hW)
    rw [hS.skews, hS.sp] at this
    dsimp only at this
    rw [hv] at this
    exact this
  · have := Many_any ⟨d.full, d.read, d.slip, d.skew, d.circ, d.glo, d.ghi, d.wr, vs⟩ A2 c2 W (by show vs.length ≤ _; omega) (k2 W hW)
    rw [hS.many, hS.sp] at this
    dsimp only at this
    rw [hv] at this
    exact this
end Go.Proofs.Ytecmlakcpgkfbaa
