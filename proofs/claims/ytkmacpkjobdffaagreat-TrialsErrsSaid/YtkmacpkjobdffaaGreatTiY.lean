/- Trials: all sets of so many tests that decide a class. -/
import Derived.Test.YtkmacpkjobdffaaGreatTiX
namespace Go.Proofs.YtkmacpkjobdffaaGreat
open Go.RowKit Go.Maps
namespace Ti
def certJ (t : Tri) (sz mo : Int) (s : Nat) : Int := cerV (lowL (fun x => errV x sz) (truthsL (justT t s))) (highL (fun x => errV x sz) (truthsL (justT t s))) mo
/-- A set of so many tests that decides. -/
def decB (t : Tri) (sz mo : Int) (count : Nat) (s : Nat) : Bool := decide ((listTo s 6).length = count) && !decide (certJ t sz mo s = 3)
def decTo (t : Tri) (sz mo : Int) (count : Nat) (k : Nat) : List Nat := (List.range k).filter (decB t sz mo count)
def decL (t : Tri) (sz mo : Int) (count : Nat) : List Nat := decTo t sz mo count (2 ^ t.ts.length)
theorem decTo_yes {t : Tri} {sz mo : Int} {count k : Nat} (h : decB t sz mo count k = true) : decTo t sz mo count (k + 1) = decTo t sz mo count k ++ [k] := by
  unfold decTo
  rw [List.range_succ, List.filter_append]
  simp [h]
theorem decTo_no {t : Tri} {sz mo : Int} {count k : Nat} (h : decB t sz mo count k = false) : decTo t sz mo count (k + 1) = decTo t sz mo count k := by
  unfold decTo
  rw [List.range_succ, List.filter_append]
  simp [h]
theorem decTo_len (t : Tri) (sz mo : Int) (count k : Nat) : (decTo t sz mo count k).length ≤ k := by
  unfold decTo
  exact Nat.le_trans (List.length_filter_le _ _) (by simp)
theorem listTo_lt {s n : Nat} (hs : s < 2 ^ n) : ∀ i ∈ listTo s 6, i < (n : Int) := fun i hi => by
  unfold listTo at hi
  obtain ⟨k, hk, rfl⟩ := List.mem_map.1 hi
  have h1 := (List.mem_filter.1 hk).2
  rw [decide_eq_true_eq] at h1
  by_cases hn : n ≤ k
  · have h2 : 2 ^ n ≤ 2 ^ k := Nat.pow_le_pow_right (by decide) hn
    have h3 : s / 2 ^ k = 0 := Nat.div_eq_of_lt (by omega)
    rw [h3] at h1
    simp at h1
  · omega
theorem pow_le6 {n : Nat} (hn : n ≤ 6) : 2 ^ n ≤ 64 := by
  have := Nat.pow_le_pow_right (n := 2) (by decide) hn
  omega
theorem shl_eq {n : Nat} (hn : n ≤ 6) : IntKind.u64.wrap ((2 : Int) ^ n) = ((2 ^ n : Nat) : Int) := by
  have h : n < 7 := by omega
  clear hn
  revert n
  decide +kernel
theorem u64_succ {k : Nat} (h : k < 64) : IntKind.u64.wrap ((k : Int) + 1) = (k : Int) + 1 := by
  revert k
  decide +kernel
end Ti
/-- A row of sets of the call's own. -/
def SetsPost (L : List Nat) (w : World) (e : Ending) (w' : World) : Prop := ∃ v : Value, e = .returned v ∧ Hid (w'.ownsRow w.heap.size 105 1 v L.length (L.map fun s : Nat => Value.int .u64 (s : Int))) ∧ Below w.heap.size w w'
theorem set_info : (Tryz.prog.info? 105).map (fun i => (i.zero, i.size, i.bytes)) = some (some (.int .u64 0), 1, 8) := by kernel_rfl
theorem owns_below {w w' : World} {B e size : Nat} {v : Value} {n : Nat} {xs : List Value} (h : w.ownsRow B e size v n xs) (hb : Below w.heap.size w w') : w'.ownsRow B e size v n xs :=
  h.kept (row := none) ⟨hb.os, hb.tape, hb.output, hb.size, fun k hk _ => hb.block k hk⟩ (by cases hv : v.ownBlock <;> simp)
/-- 'l = append(l, s)' on a row of sets of the call's own. -/
theorem wpList_pushs {ops : Array Oper} {rest : List Oper} {o : Oper} {a : Act} {Q : Exit → Act → World → Prop} {wr : World} (hgd : o.guard = none) (s y : Operand)
    (ho : o.op = .call { callee := .builtin .append, args := #[s, y], argTypes := #[101, 101] }) (x : Int) (B : Nat) (v : Value) (n : Nat) (xs : List Value) (hs : a.eval s = v)
    (hx : a.eval y = .slice (some ⟨wr.heap.size, 0, none⟩) 1 1) (hown : wr.ownsRow B 105 1 v n xs) (hB : B ≤ wr.heap.size) (hn : n ≤ 100000)
    (h : ∀ v' w', w'.ownsRow B 105 1 v' (n + 1) (xs ++ [.int .u64 x]) → Below B wr w' → wpList Tryz.prog ops Q rest (a.put o.dst v') w') :
    wpList Tryz.prog ops Q (o :: rest) a (wr.alloc (.cells #[.int .u64 x] 105)) := by
  obtain ⟨i0, hi0, hz0, hz1, hz2⟩ := info_parts1w set_info
  refine wpList_append_any _ hgd s y 101 ho B 105 i0 (.int .u64 0) 1 8 Tryz.underlying101 hi0 hz0 hz1 hz2 rfl (by decide) v n xs hs (hown.alloc _) (wr.heap.size + 1) (some ⟨wr.heap.size, 0, none⟩) 1 1 [.int .u64 x] hx ?_ ?_ ?_ ?_ ?_ ?_
  · refine ⟨rfl, fun _ => ⟨_, rfl, by simp, fun j u hu => ?_⟩⟩
    rcases j with _ | j
    · have hu' : u = .int .u64 x := by simpa using hu.symm
      subst hu'
      show (wr.alloc _).cell? ⟨wr.heap.size, 0, none⟩ = _
      go_cell
    · simp at hu
  · intro u hu
    simp at hu
    subst hu
    rfl
  · simp only [maxLen]; omega
  · omega
  · simp; omega
  · intro v' w' hown' hg _
    exact h v' w' hown' (((Below.refl B wr).alloc hB _).grown hg (by simp; omega) (fun j hj => (hown.lt j hj).1))
set_option maxRecDepth 100000 in
set_option maxHeartbeats 8000000 in
theorem deciding_any (t : Ti.Tri) (hga : 0 ≤ t.gain ∧ t.gain ≤ 50) (hsk : 0 ≤ t.d.skew ∧ t.d.skew ≤ 20) (hn6 : t.ts.length ≤ 6) (sz mo : Int) (hz : 0 ≤ sz ∧ sz ≤ 9000) (count : Nat) (hct : count ≤ 1000) (A : Option Addr) (c : Nat) (AL : Option Addr) (cm : Nat) (w : World) (hg : Tsts w w.heap.size A t.ts) (hal : Alw w w.heap.size AL t) :
    Calls Tryz.prog 101 #[.agg (fV t A c AL t.ts.length cm), .agg #[.int .i64 sz, .int .i64 mo], .int .i64 count] w (SetsPost (Ti.decL t sz mo count) w) := by
  have HCN : Hid (∀ s : Nat, s < 64 → ∀ W, Calls Tryz.prog 74 #[.int .u64 s] W fun e w' => e = .returned (.int .i64 ((Ti.listTo s 6).length : Int)) ∧ Below W.heap.size W w') := fun s hs W => count_any s hs W
  have HJU : Hid (∀ s : Nat, s < 2 ^ t.ts.length → ∀ W, Below w.heap.size w W → Calls Tryz.prog 115 #[.agg (fV t A c AL t.ts.length cm), .int .u64 s] W fun e w' => ∃ A1 c1 AL1 n1 cm1, e = .returned (.agg #[.int .i64 t.d.full, .int .i64 t.d.read, .int .i64 t.d.slip, .int .i64 t.d.skew, .int .i64 t.d.circ, .int .i64 t.d.glo, .int .i64 t.d.ghi, .int .i64 t.d.wr, .int .i64 t.gain, .slice A1 n1 c1, .slice AL1 n1 cm1]) ∧
      Hid (∀ V, Below w'.heap.size w' V → Calls Tryz.prog 66 #[.agg #[.int .i64 t.d.full, .int .i64 t.d.read, .int .i64 t.d.slip, .int .i64 t.d.skew, .int .i64 t.d.circ, .int .i64 t.d.glo, .int .i64 t.d.ghi, .int .i64 t.d.wr, .int .i64 t.gain, .slice A1 n1 c1, .slice AL1 n1 cm1], .agg #[.int .i64 sz, .int .i64 mo]] V fun e V' => e = .returned (.int .i64 (Ti.certJ t sz mo s)) ∧ Below V.heap.size V V') ∧ Below W.heap.size W w') := fun s hs W hW => by
    have h64 : s < 64 := Nat.lt_of_lt_of_le hs (Ti.pow_le6 hn6)
    refine (just_any t s h64 hn6 (Ti.listTo_lt hs) A c AL cm W ((hg.keep hW).wider hW.size) ((hal.keep hW).wider hW.size)).mono ?_
    rintro e w' ⟨A1, c1, AL1, cm1, e1, h2, h3⟩
    have hlen : (Ti.justT t s).ts.length = (Ti.listTo s 6).length := List.length_map _
    refine ⟨A1, c1, AL1, (Ti.justT t s).ts.length, cm1, e1, fun V hV => ?_, h3⟩
    exact fcert_any (Ti.justT t s) hga hsk (by rw [hlen]; exact Ti.listTo_len _ _) sz mo hz A1 c1 AL1 cm1 V ((h2.out.keep hV).wider hV.size)
  have HD0 : Hid (Ti.decTo t sz mo count 0 = []) := rfl
  have HDY : Hid (∀ k, (Ti.listTo k 6).length = count → Ti.certJ t sz mo k ≠ 3 → Ti.decTo t sz mo count (k + 1) = Ti.decTo t sz mo count k ++ [k]) := fun k h1 h2 => Ti.decTo_yes (by unfold Ti.decB; rw [decide_eq_true h1, decide_eq_false h2]; rfl)
  have HDN : Hid (∀ k, (Ti.listTo k 6).length ≠ count ∨ Ti.certJ t sz mo k = 3 → Ti.decTo t sz mo count (k + 1) = Ti.decTo t sz mo count k) := fun k h => Ti.decTo_no (by
    unfold Ti.decB
    rcases h with h | h
    · rw [decide_eq_false h]; rfl
    · rw [decide_eq_true h, Bool.and_comm]; rfl)
  have HDL : Hid (Ti.decL t sz mo count = Ti.decTo t sz mo count (2 ^ t.ts.length)) := rfl
  have HLN : Hid (∀ k, (Ti.decTo t sz mo count k).length ≤ k) := fun k => Ti.decTo_len t sz mo count k
  have h64 := Ti.pow_le6 hn6
  unfold SetsPost
  rw [HDL.out]
  clear HDL
  generalize Ti.decTo t sz mo count = DT at *
  generalize Ti.certJ t sz mo = CJ at *
  clear hg hal hga hsk hz
  unfold fV at *
  obtain ⟨d, gain, ts⟩ := t
  obtain ⟨full, read, slip, skew, circ, glo, ghi, wrn, dws⟩ := d
  dsimp only at *
  have hsh := Ti.shl_eq hn6
  obtain ⟨NP, hNP⟩ : ∃ NP, NP = 2 ^ ts.length := ⟨_, rfl⟩
  rw [← hNP] at hsh h64 HJU
  rw [← hNP]
  clear hNP
  go_enter Tryz.func101, Tryz.ntmps101
  go_wp2_with fail

  have bF0 := (BoxS.new w 84 #[.int .i64 full, .int .i64 read, .int .i64 slip, .int .i64 skew, .int .i64 circ, .int .i64 glo, .int .i64 ghi, .int .i64 wrn, .int .i64 gain, .slice A ts.length c, .slice AL ts.length cm]).alloc (.cells #[.int .i64 sz, .int .i64 mo] 45)
  have bC0 := BoxS.new (w.alloc (.cells #[.int .i64 full, .int .i64 read, .int .i64 slip, .int .i64 skew, .int .i64 circ, .int .i64 glo, .int .i64 ghi, .int .i64 wrn, .int .i64 gain, .slice A ts.length c, .slice AL ts.length cm] 84)) 45 #[.int .i64 sz, .int .i64 mo]
  have hB1 : Below w.heap.size w ((w.alloc (.cells #[.int .i64 full, .int .i64 read, .int .i64 slip, .int .i64 skew, .int .i64 circ, .int .i64 glo, .int .i64 ghi, .int .i64 wrn, .int .i64 gain, .slice A ts.length c, .slice AL ts.length cm] 84)).alloc (.cells #[.int .i64 sz, .int .i64 mo] 45)) := by (repeat' (first | (with_reducible exact Below.refl _ _) | (with_reducible assumption) | (with_reducible refine Below.alloc ?_ ?_ _) | (with_reducible refine Below.drew ?_) | (with_reducible refine Below.setCell ?_ ?_ _) | go_size | (exact (by simp)) | omega))
  rw [World.size_alloc] at bC0
  generalize World.alloc (World.alloc w _) _ = w1 at *
  go_loopw [7, 8, 14] (fun x7 x8 x14 wr => ∃ (k : Nat), (k : Int) ≤ NP ∧ x14 = .int .u64 (k : Int) ∧ Below w.heap.size w wr ∧ BoxS wr w.heap.size 84 #[.int .i64 full, .int .i64 read, .int .i64 slip, .int .i64 skew, .int .i64 circ, .int .i64 glo, .int .i64 ghi, .int .i64 wrn, .int .i64 gain, .slice A ts.length c, .slice AL ts.length cm] ∧ BoxS wr (w.heap.size + 1) 45 #[.int .i64 sz, .int .i64 mo] ∧ Hid (wr.ownsRow (w.heap.size + 1 + 1) 105 1 x7 (DT k).length ((DT k).map fun s : Nat => Value.int .u64 (s : Int)))) (fun _ _ x14 _ => (NP - intOf x14).toNat)
  case atStart => exact ⟨0, by omega, rfl, hB1, bF0, bC0, by rw [HD0.out]; exact World.ownsRow_nil _ _ _ _⟩
  case round =>
    clear bF0 bC0 hB1
    obtain ⟨k, hk, rfl, hB, bF, bC, hO⟩ := hrel
    have hk0 := Int.natCast_nonneg k
    by_cases hlt : (k : Int) < NP
    · have hkn : k < NP := by omega
      have hk64 : k < 64 := by omega
      have hw1 : IntKind.u64.wrap ((k : Int) + 1) = (k : Int) + 1 := Ti.u64_succ hk64
      have hmo : Tryz.prog.follows .mixedOrders = true := by kernel_rfl
      have hln := HLN.out k
      go_wp2_with fail
      have q0 : Below (w.heap.size + 1 + 1) wr.drew wr.drew := Below.refl _ _
      have KC : Hid (∀ V', Below (w.heap.size + 1 + 1) wr.drew V' → ((V'.cell? ⟨w.heap.size, 0, none⟩ = some (.int .i64 full) ∧ V'.cell? ⟨w.heap.size, 1, none⟩ = some (.int .i64 read) ∧ V'.cell? ⟨w.heap.size, 2, none⟩ = some (.int .i64 slip) ∧ V'.cell? ⟨w.heap.size, 3, none⟩ = some (.int .i64 skew) ∧ V'.cell? ⟨w.heap.size, 4, none⟩ = some (.int .i64 circ) ∧ V'.cell? ⟨w.heap.size, 5, none⟩ = some (.int .i64 glo) ∧ V'.cell? ⟨w.heap.size, 6, none⟩ = some (.int .i64 ghi) ∧ V'.cell? ⟨w.heap.size, 7, none⟩ = some (.int .i64 wrn) ∧ V'.cell? ⟨w.heap.size, 8, none⟩ = some (.int .i64 gain) ∧ V'.cell? ⟨w.heap.size, 9, none⟩ = some (.slice A ts.length c) ∧ V'.cell? ⟨w.heap.size, 10, none⟩ = some (.slice AL ts.length cm)) ∧ V'.cell? ⟨w.heap.size + 1, 0, none⟩ = some (.int .i64 sz) ∧ V'.cell? ⟨w.heap.size + 1, 1, none⟩ = some (.int .i64 mo))) := fun V' h => by
        have bF' : BoxS V' w.heap.size _ _ := (h.block w.heap.size (by omega)).trans bF.drew
        have bC' : BoxS V' (w.heap.size + 1) _ _ := (h.block (w.heap.size + 1) (by omega)).trans bC.drew
        exact ⟨⟨bF'.cell 0 rfl, bF'.cell 1 rfl, bF'.cell 2 rfl, bF'.cell 3 rfl, bF'.cell 4 rfl, bF'.cell 5 rfl, bF'.cell 6 rfl, bF'.cell 7 rfl, bF'.cell 8 rfl, bF'.cell 9 rfl, bF'.cell 10 rfl⟩, bC'.cell 0 rfl, bC'.cell 1 rfl⟩
      have hBd : Below w.heap.size w wr.drew := hB.drew
      have bFd := bF.drew
      have bCd := bC.drew
      have hOd := Lib.hid (owns_below hO.out ((Below.refl wr.heap.size wr).drew))
      have hN2 : w.heap.size + 1 + 1 ≤ wr.drew.heap.size := Nat.succ_le_of_lt bCd.lt
      clear hB bF bC hO
      by_cases hc : (Ti.listTo k 6).length = count
      · have hci : (((Ti.listTo k 6).length : Int) == (count : Int)) = true := by rw [hc]; simp
        refine (wpIn_wide (n := 4)).1 ?_
        refine wpIn_mono (Q := noPanic _) ?_ noPanic_le
        refine wpIn_region_held (fun V' => Below (w.heap.size + 1 + 1) wr.drew V') 30 hmo ?_
        refine wpHeldIn_take (i := 0) (v := ?_) (plain_of (by kernel_rfl)) rfl (by kernel_rfl) (fun _ _ _ h => h) (yieldsSoIn_of (by kernel_rfl) ?_ (fun _ => rfl)) q0 ?_; rotate_left; focus (intro wq hw; clear hw; go_simp; try (with_reducible rfl))
        refine wpHeldIn_take (i := 2) (v := ?_) (plain_of (by kernel_rfl)) rfl (by kernel_rfl) (fun _ _ _ h => h) (yieldsSoIn_of (by kernel_rfl) ?_ (fun _ => rfl)) q0 ?_; rotate_left; focus (intro wq hw; clear hw; go_simp; try (with_reducible rfl))
        refine wpHeldIn_one (i := 1) (by kernel_rfl) (by kernel_rfl) rfl (by kernel_rfl) (fun K1 hK1 => ?_)
        go_simp
        refine ⟨trivial, (callsIn_wide.2 (HCN.out k hk64 _)).mono ?_⟩
        rintro e w5 ⟨rfl, hb5⟩
        have q5 := q0.trans (hb5.mono hN2)
        have hN5 : w.heap.size + 1 + 1 ≤ w5.heap.size := Nat.le_trans hN2 hb5.size
        have hO5 := Lib.hid (owns_below hOd.out hb5)
        refine hK1 _ _ q5 ?_
        refine wpHeldIn_take (i := 3) (v := ?_) (plain_of (by kernel_rfl)) rfl (by kernel_rfl) (fun _ _ _ h => h) (yieldsSoIn_of (by kernel_rfl) ?_ (fun _ => rfl)) q5 ?_; rotate_left; focus (intro wq hw; clear hw; go_simp; try (with_reducible rfl))
        refine wpHeldIn_take (i := 4) (v := ?_) (plain_of (by kernel_rfl)) rfl (by kernel_rfl) (fun _ _ _ h => h) (yieldsSoIn_of (by kernel_rfl) ?_ (fun _ => rfl)) q5 ?_; rotate_left; focus (intro wq hw; clear hw; go_simp; try (with_reducible rfl))
        refine wpHeldIn_take (i := 5) (v := ?_) (plain_of (by kernel_rfl)) rfl (by kernel_rfl) (fun _ _ _ h => h) (yieldsSoIn_of (by kernel_rfl) ?_ (fun _ => rfl)) q5 ?_; rotate_left; focus (intro wq hw; have kq := KC.out wq hw; clear hw; go_simp; try (with_reducible rfl))
        refine wpHeldIn_take (i := 6) (v := ?_) (plain_of (by kernel_rfl)) rfl (by kernel_rfl) (fun _ _ _ h => h) (yieldsSoIn_of (by kernel_rfl) ?_ (fun _ => rfl)) q5 ?_; rotate_left; focus (intro wq hw; clear hw; go_simp; try (with_reducible rfl))
        refine wpHeldIn_take (i := 8) (v := ?_) (plain_of (by kernel_rfl)) rfl (by kernel_rfl) (fun _ _ _ h => h) (yieldsSoIn_of (by kernel_rfl) ?_ (fun _ => rfl)) q5 ?_; rotate_left; focus (intro wq hw; have kq := KC.out wq hw; clear hw; go_simp; try (with_reducible rfl))
        refine wpHeldIn_one (i := 7) (by kernel_rfl) (by kernel_rfl) rfl (by kernel_rfl) (fun K2 hK2 => ?_)
        go_simp
        refine ⟨trivial, (callsIn_wide.2 (HJU.out k hkn _ (hBd.trans (q5.mono (by omega))))).mono ?_⟩
        rintro e w6 ⟨A1, c1, AL1, n1, cm1, rfl, hCE, hb6⟩
        have q6 := q5.trans (hb6.mono hN5)
        have hN6 : w.heap.size + 1 + 1 ≤ w6.heap.size := Nat.le_trans hN5 hb6.size
        have hO6 := Lib.hid (owns_below hO5.out hb6)
        refine hK2 _ _ q6 ?_
        refine wpHeldIn_one (i := 9) (by kernel_rfl) (by kernel_rfl) rfl (by kernel_rfl) (fun K3 hK3 => ?_)
        go_simp
        refine ⟨trivial, (callsIn_wide.2 (hCE.out _ (Below.refl _ _))).mono ?_⟩
        rintro e w7 ⟨rfl, hb7⟩
        have q7 := q6.trans (hb7.mono hN6)
        have hN7 : w.heap.size + 1 + 1 ≤ w7.heap.size := Nat.le_trans hN6 hb7.size
        have hO7 := Lib.hid (owns_below hO6.out hb7)
        have hB7 := hBd.trans (q7.mono (by omega))
        have bF7 : BoxS w7 w.heap.size _ _ := (q7.block w.heap.size (by omega)).trans bFd
        have bC7 : BoxS w7 (w.heap.size + 1) _ _ := (q7.block (w.heap.size + 1) (by omega)).trans bCd
        refine hK3 _ _ q7 ?_
        clear hO5 hO6 hOd bFd bCd hBd q5 q6 hb5 hb6 hb7 hCE KC HJU q0
        by_cases h3 : CJ k = 3
        · rw [h3]
          refine wpHeldIn_take (i := 10) (v := ?_) (plain_of (by kernel_rfl)) rfl (by kernel_rfl) (fun _ _ _ h => h) (yieldsSoIn_of (by kernel_rfl) ?_ (fun _ => rfl)) q7 ?_; rotate_left; focus (intro wq hw; clear hw; go_simp; try (with_reducible rfl))
          refine wpHeldIn_take (i := 11) (v := ?_) (plain_of (by kernel_rfl)) rfl (by kernel_rfl) (fun _ _ _ h => h) (yieldsSoIn_of (by kernel_rfl) ?_ (fun _ => rfl)) q7 ?_; rotate_left; focus (intro wq hw; clear hw; go_simp; try (with_reducible rfl))
          refine wpHeldIn_done (by kernel_rfl) ?_ _
          go_simp
          refine noPanic_of ?_
          go_wp2_with fail
          go_roundw
          case rel => exact ⟨k + 1, by omega, by go_num, hB7, bF7, bC7, by rw [HDN.out k (.inr h3)]; exact hO7⟩
          case measure => simp [intOf]; omega
        · have h3b : (CJ k != 3) = true := by simpa using h3
          refine wpHeldIn_take (i := 10) (v := ?_) (plain_of (by kernel_rfl)) rfl (by kernel_rfl) (fun _ _ _ h => h) (yieldsSoIn_of (by kernel_rfl) ?_ (fun _ => rfl)) q7 ?_; rotate_left; focus (intro wq hw; clear hw; go_simp; try (with_reducible rfl))
          refine wpHeldIn_take (i := 11) (v := ?_) (plain_of (by kernel_rfl)) rfl (by kernel_rfl) (fun _ _ _ h => h) (yieldsSoIn_of (by kernel_rfl) ?_ (fun _ => rfl)) q7 ?_; rotate_left; focus (intro wq hw; clear hw; go_simp; try (with_reducible rfl))
          refine wpHeldIn_done (by kernel_rfl) ?_ _
          go_simp
          refine noPanic_of ?_
          go_wp2_with (at_builtin; refine wpList_pushs rfl (.tmp 29) (.tmp 31) rfl (k : Int) (w.heap.size + 1 + 1) _ _ _ rfl rfl hO7.out hN7 (by omega) ?_; intro v' w8 hown8 hb8; have HO8 := Lib.hid hown8; clear hown8)
          have hB8 := hB7.trans (hb8.mono (by omega))
          have bF8 : BoxS w8 w.heap.size _ _ := (hb8.block w.heap.size (by omega)).trans bF7
          have bC8 : BoxS w8 (w.heap.size + 1) _ _ := (hb8.block (w.heap.size + 1) (by omega)).trans bC7
          go_roundw
          case rel => exact ⟨k + 1, by omega, by go_num, hB8, bF8, bC8, by unfold Hid; rw [HDY.out k hc h3, List.length_append, List.map_append]; exact HO8.out⟩
          case measure => simp [intOf]; omega
      · have hci : (((Ti.listTo k 6).length : Int) == (count : Int)) = false := by simpa using fun h => hc (by omega)
        refine (wpIn_wide (n := 4)).1 ?_
        refine wpIn_mono (Q := noPanic _) ?_ noPanic_le
        refine wpIn_region_held (fun V' => Below (w.heap.size + 1 + 1) wr.drew V') 30 hmo ?_
        refine wpHeldIn_take (i := 0) (v := ?_) (plain_of (by kernel_rfl)) rfl (by kernel_rfl) (fun _ _ _ h => h) (yieldsSoIn_of (by kernel_rfl) ?_ (fun _ => rfl)) q0 ?_; rotate_left; focus (intro wq hw; clear hw; go_simp; try (with_reducible rfl))
        refine wpHeldIn_take (i := 2) (v := ?_) (plain_of (by kernel_rfl)) rfl (by kernel_rfl) (fun _ _ _ h => h) (yieldsSoIn_of (by kernel_rfl) ?_ (fun _ => rfl)) q0 ?_; rotate_left; focus (intro wq hw; clear hw; go_simp; try (with_reducible rfl))
        refine wpHeldIn_one (i := 1) (by kernel_rfl) (by kernel_rfl) rfl (by kernel_rfl) (fun K1 hK1 => ?_)
        go_simp
        refine ⟨trivial, (callsIn_wide.2 (HCN.out k hk64 _)).mono ?_⟩
        rintro e w5 ⟨rfl, hb5⟩
        have q5 := q0.trans (hb5.mono hN2)
        have hN5 : w.heap.size + 1 + 1 ≤ w5.heap.size := Nat.le_trans hN2 hb5.size
        have hO5 := Lib.hid (owns_below hOd.out hb5)
        refine hK1 _ _ q5 ?_
        refine wpHeldIn_take (i := 3) (v := ?_) (plain_of (by kernel_rfl)) rfl (by kernel_rfl) (fun _ _ _ h => h) (yieldsSoIn_of (by kernel_rfl) ?_ (fun _ => rfl)) q5 ?_; rotate_left; focus (intro wq hw; clear hw; go_simp; try (with_reducible rfl))
        refine wpHeldIn_take (i := 4) (v := ?_) (plain_of (by kernel_rfl)) rfl (by kernel_rfl) (fun _ _ _ h => h) (yieldsSoIn_of (by kernel_rfl) ?_ (fun _ => rfl)) q5 ?_; rotate_left; focus (intro wq hw; clear hw; go_simp; try (with_reducible rfl))
        refine wpHeldIn_take (i := 5) (plain_of (by kernel_rfl)) rfl (by kernel_rfl) (fun _ _ _ h => h) (yieldsSoIn_skip (by kernel_rfl) (fun _ => trivial)) q5 ?_
        refine wpHeldIn_take (i := 6) (plain_of (by kernel_rfl)) rfl (by kernel_rfl) (fun _ _ _ h => h) (yieldsSoIn_skip (by kernel_rfl) (fun _ => trivial)) q5 ?_
        refine wpHeldIn_take (i := 8) (plain_of (by kernel_rfl)) rfl (by kernel_rfl) (fun _ _ _ h => h) (yieldsSoIn_skip (by kernel_rfl) (fun _ => trivial)) q5 ?_
        refine wpHeldIn_take (i := 7) (plain_of (by kernel_rfl)) rfl (by kernel_rfl) (fun _ _ _ h => h) (yieldsSoIn_skip (by kernel_rfl) (fun _ => trivial)) q5 ?_
        refine wpHeldIn_take (i := 9) (plain_of (by kernel_rfl)) rfl (by kernel_rfl) (fun _ _ _ h => h) (yieldsSoIn_skip (by kernel_rfl) (fun _ => trivial)) q5 ?_
        refine wpHeldIn_take (i := 10) (plain_of (by kernel_rfl)) rfl (by kernel_rfl) (fun _ _ _ h => h) (yieldsSoIn_skip (by kernel_rfl) (fun _ => trivial)) q5 ?_
        refine wpHeldIn_take (i := 11) (v := ?_) (plain_of (by kernel_rfl)) rfl (by kernel_rfl) (fun _ _ _ h => h) (yieldsSoIn_of (by kernel_rfl) ?_ (fun _ => rfl)) q5 ?_; rotate_left; focus (intro wq hw; clear hw; go_simp; try (with_reducible rfl))
        refine wpHeldIn_done (by kernel_rfl) ?_ _
        go_simp
        refine noPanic_of ?_
        have hB7 := hBd.trans (q5.mono (by omega))
        have bF7 : BoxS w5 w.heap.size _ _ := (q5.block w.heap.size (by omega)).trans bFd
        have bC7 : BoxS w5 (w.heap.size + 1) _ _ := (q5.block (w.heap.size + 1) (by omega)).trans bCd
        clear hOd bFd bCd hBd KC HJU q0
        go_wp2_with fail
        go_roundw
        case rel => exact ⟨k + 1, by omega, by go_num, hB7, bF7, bC7, by rw [HDN.out k (.inl hc)]; exact hO5⟩
        case measure => simp [intOf]; omega
    · have ek : k = NP := by omega
      subst ek
      go_wp2_with fail
      go_returns
      exact ⟨_, rfl, ownsRow_wider hO.out (by omega), hB⟩
end Go.Proofs.YtkmacpkjobdffaaGreat
