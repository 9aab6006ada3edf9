/- Trials: the areas that can be seen as a number. -/
import Derived.Test.YtkmacpkjobdffaaTiV
namespace Go.Proofs.Ytkmacpkjobdffaa
open Go.RowKit Go.Maps
namespace Ti
def seesB (L : List Int) (s : Int) (a : Int) : Bool := L.any fun g => seenV g a == s
def realTo (L : List Int) (s : Int) (k : Nat) : List Int := ((List.range k).filter fun a : Nat => seesB L s (a : Int)).map fun a : Nat => (a : Int)
theorem realTo_yes {L : List Int} {s : Int} {k : Nat} (h : seesB L s (k : Int) = true) : realTo L s (k + 1) = realTo L s k ++ [(k : Int)] := by
  unfold realTo
  rw [List.range_succ, List.filter_append, List.map_append]
  simp [h]
theorem realTo_no {L : List Int} {s : Int} {k : Nat} (h : seesB L s (k : Int) = false) : realTo L s (k + 1) = realTo L s k := by
  unfold realTo
  rw [List.range_succ, List.filter_append, List.map_append]
  simp [h]
theorem realTo_len (L : List Int) (s : Int) (k : Nat) : (realTo L s k).length ≤ k := by
  unfold realTo
  rw [List.length_map]
  exact Nat.le_trans (List.length_filter_le _ _) (by simp)
def realE (E : Int) (t : Tri) (s : Int) : List Int := realTo (allE (fun x => x.1) E t) s 9001
end Ti
theorem ownsRow_belowT {w w' : World} {base size n : Nat} {e : TypeId} {v : Value} {xs : List Value} (h : w.ownsRow base e size v n xs) (hb : Below w.heap.size w w') : w'.ownsRow base e size v n xs := by
  refine ⟨h.1, ?_⟩
  rcases h.2 with h4 | ⟨g, cap, cur, a1, a2, a3, a4⟩
  · exact .inl h4
  · exact .inr ⟨g, cap, cur, a1, a2, (hb.block g (Array.getElem?_eq_some_iff.1 a3).1).trans a3, a4⟩
set_option maxRecDepth 100000 in
set_option maxHeartbeats 8000000 in
theorem RealT_any (t : Ti.Tri) (s : Int) (A : Option Addr) (c : Nat) (w : World) (hl : t.ts.length ≤ 1000000000) (hg : Tsts w w.heap.size A t.ts) :
    Calls Try.prog 34 #[.agg (tiV t A c), .int .i64 s] w (IntsEPost (Ti.realE (Ti.opE t (inB s 0 9999)) t s) (Ti.opE t (inB s 0 9999)) w) := by
  have HWI : Hid (∀ W, Calls Try.prog 38 #[.int .i64 s, .int .i64 0, .int .i64 9999] W fun e w' => e = .returned (.bool (inB s 0 9999)) ∧ w' = W) := fun W => withinT_any _ _ _ W
  have HA : Hid (∀ W, Below w.heap.size w W → Calls Try.prog 43 #[.agg (tiV t A c), .bool (inB s 0 9999), .func (.func 58) #[] #[]] W (IntsEPost (Ti.allE (fun x => x.1) (Ti.opE t (inB s 0 9999)) t) (Ti.opE t (inB s 0 9999)) W)) := fun W hW =>
    allT_any t _ 58 (fun x => x.1) (fun args W => enters_of Try.func58 (by kernel_rfl) rfl args W) (fun x => by have := x.2; unfold Ti.gsm at this; (try dsimp only); omega) A c W hl ((hg.keep hW).wider hW.size) (fun x W => Real1_any x W)
  have HLB : Hid (∀ z, z ∈ Ti.allE (fun x => x.1) (Ti.opE t (inB s 0 9999)) t → -50 ≤ z ∧ z ≤ 50) := fun z hz => by
    unfold Ti.allE at hz
    split at hz
    · exact Ti.gains_bd hz
    · cases hz
  have HLL : (Ti.allE (fun x => x.1) (Ti.opE t (inB s 0 9999)) t).length ≤ 101 := by
    unfold Ti.allE
    split
    · exact Ti.gains_len _
    · simp
  unfold IntsEPost at *
  unfold Ti.realE
  generalize Ti.allE (fun x => x.1) (Ti.opE t (inB s 0 9999)) t = L at *
  generalize Ti.opE t (inB s 0 9999) = E at *
  generalize inB s 0 9999 = IB at *
  have HCF : Hid (∀ (a : Int) (A' : Option Addr) (c' BA BS : Nat) W, 0 ≤ a ∧ a ≤ 9000 → Ints W W.heap.size (.slice A' L.length c') L → BoxS W BA 3 #[.int .i64 a] → BoxS W BS 3 #[.int .i64 s] → Calls Try.prog 59 #[.slice A' L.length c', .func (.func 60) #[] #[.pointer (some ⟨BA, 0, none⟩), .pointer (some ⟨BS, 0, none⟩)]] W fun e w' => e = .returned (.bool (Ti.seesB L s a)) ∧ Below W.heap.size W w') := fun a A' c' BA BS W ha hI hA hS =>
    containsFunc_any 60 _ _ (fun g => Ti.seenV g a == s) (fun args W => enters_of Try.func60 (by kernel_rfl) rfl args W) L A' c' W (by omega) hI
      (fun z V hz hV => Real2_any z a s (HLB.out z hz) ha BA BS V ((hA.below hV).cell 0 rfl) ((hS.below hV).cell 0 rfl) (hA.below hV).lt (hS.below hV).lt)
  have HR0 : Hid (Ti.realTo L s 0 = []) := rfl
  have HRY : Hid (∀ k : Nat, Ti.seesB L s (k : Int) = true → Ti.realTo L s (k + 1) = Ti.realTo L s k ++ [(k : Int)]) := fun k => Ti.realTo_yes
  have HRN : Hid (∀ k : Nat, Ti.seesB L s (k : Int) = false → Ti.realTo L s (k + 1) = Ti.realTo L s k) := fun k => Ti.realTo_no
  have HRL : Hid (∀ k, (Ti.realTo L s k).length ≤ k) := Ti.realTo_len L s
  generalize Ti.realTo L s = RT at *
  generalize Ti.seesB L s = SB at *
  have hmo : Try.prog.follows .mixedOrders = true := by kernel_rfl
  clear hg HLB
  unfold tiV at *
  obtain ⟨d, gain, ts⟩ := t
  obtain ⟨full, read, slip, skew, circ, glo, ghi, wrn, dws⟩ := d
  dsimp only at *
  go_enter Try.func34, Try.ntmps34
  go_wp2_with fail
  have bT := (BoxS.new w 28 #[.int .i64 full, .int .i64 read, .int .i64 slip, .int .i64 skew, .int .i64 circ, .int .i64 glo, .int .i64 ghi, .int .i64 wrn, .int .i64 gain, .slice A ts.length c]).alloc (.cells #[.int .i64 s] 3)
  have bS := BoxS.new (w.alloc (.cells #[.int .i64 full, .int .i64 read, .int .i64 slip, .int .i64 skew, .int .i64 circ, .int .i64 glo, .int .i64 ghi, .int .i64 wrn, .int .i64 gain, .slice A ts.length c] 28)) 3 #[.int .i64 s]
  have hB1 : Below w.heap.size w ((w.alloc (.cells #[.int .i64 full, .int .i64 read, .int .i64 slip, .int .i64 skew, .int .i64 circ, .int .i64 glo, .int .i64 ghi, .int .i64 wrn, .int .i64 gain, .slice A ts.length c] 28)).alloc (.cells #[.int .i64 s] 3)) := by (repeat' (first | (with_reducible exact Below.refl _ _) | (with_reducible assumption) | (with_reducible refine Below.alloc ?_ ?_ _) | (with_reducible refine Below.drew ?_) | (with_reducible refine Below.setCell ?_ ?_ _) | go_size | (exact (by simp)) | omega))
  simp only [World.size_alloc] at bS
  generalize World.alloc (World.alloc w _) _ = w1 at *
  have q0 : Below w1.heap.size w1 w1.drew := (Below.refl _ _).drew
  have KC : Hid (∀ V', Below w1.heap.size w1 V' → (V'.cell? ⟨w.heap.size, 0, none⟩ = some (.int .i64 full) ∧ V'.cell? ⟨w.heap.size, 1, none⟩ = some (.int .i64 read) ∧ V'.cell? ⟨w.heap.size, 2, none⟩ = some (.int .i64 slip) ∧ V'.cell? ⟨w.heap.size, 3, none⟩ = some (.int .i64 skew) ∧ V'.cell? ⟨w.heap.size, 4, none⟩ = some (.int .i64 circ) ∧ V'.cell? ⟨w.heap.size, 5, none⟩ = some (.int .i64 glo) ∧ V'.cell? ⟨w.heap.size, 6, none⟩ = some (.int .i64 ghi) ∧ V'.cell? ⟨w.heap.size, 7, none⟩ = some (.int .i64 wrn) ∧ V'.cell? ⟨w.heap.size, 8, none⟩ = some (.int .i64 gain) ∧ V'.cell? ⟨w.heap.size, 9, none⟩ = some (.slice A ts.length c) ∧ V'.cell? ⟨w.heap.size + 1, 0, none⟩ = some (.int .i64 s))) := fun V' h => ⟨(bT.below h).cell 0 rfl, (bT.below h).cell 1 rfl, (bT.below h).cell 2 rfl, (bT.below h).cell 3 rfl, (bT.below h).cell 4 rfl, (bT.below h).cell 5 rfl, (bT.below h).cell 6 rfl, (bT.below h).cell 7 rfl, (bT.below h).cell 8 rfl, (bT.below h).cell 9 rfl, (bS.below h).cell 0 rfl⟩
  refine (wpIn_wide (n := 4)).1 ?_
  refine wpIn_mono (Q := noPanic _) ?_ noPanic_le
  refine wpIn_region_held (fun V' => Below w1.heap.size w1 V') 30 hmo ?_
  refine wpHeldIn_take (i := 0) (v := ?_) (plain_of (by kernel_rfl)) rfl (by kernel_rfl) (fun _ _ _ h => h) (yieldsSoIn_of (by kernel_rfl) ?_ (fun _ => rfl)) q0 ?_; rotate_left; focus (intro wq hw; have kq := KC.out wq hw; clear hw; go_simp; try (with_reducible rfl))
  refine wpHeldIn_take (i := 1) (v := ?_) (plain_of (by kernel_rfl)) rfl (by kernel_rfl) (fun _ _ _ h => h) (yieldsSoIn_of (by kernel_rfl) ?_ (fun _ => rfl)) q0 ?_; rotate_left; focus (intro wq hw; have kq := KC.out wq hw; clear hw; go_simp; try (with_reducible rfl))
  refine wpHeldIn_take (i := 2) (v := .bool IB) (plain_of (by kernel_rfl)) rfl (by kernel_rfl) (fun _ _ _ h => h) (yieldsSoIn_call (by kernel_rfl) ?_ rfl (fun _ => trivial) (fun m wq hw => callsIn_wide.2 ((HWI.out _).mono (fun e w' h => ⟨h.1, h.2⟩)))) q0 ?_; focus (intro wq hw; clear hw; go_simp; try (with_reducible rfl))
  refine wpHeldIn_one (i := 3) (by kernel_rfl) (by kernel_rfl) rfl (by kernel_rfl) (fun K3 hK3 => ?_)
  go_simp
  refine ⟨trivial, (callsIn_wide.2 (HA.out _ (hB1.trans (q0.mono hB1.size)))).mono ?_⟩
  rintro e w2 ⟨v, rfl, hv, hb2⟩
  have q2 := q0.trans (hb2.mono q0.size)
  have bS2 := bS.below q2
  have hB2 := hB1.trans (q2.mono hB1.size)
  refine hK3 _ _ q2 ?_
  refine wpHeldIn_take (i := 4) (v := ?_) (plain_of (by kernel_rfl)) rfl (by kernel_rfl) (fun _ _ _ h => h) (yieldsSoIn_of (by kernel_rfl) ?_ (fun _ => rfl)) q2 ?_; rotate_left; focus (intro wq hw; clear hw; go_simp; try (with_reducible rfl))
  refine wpHeldIn_take (i := 5) (v := ?_) (plain_of (by kernel_rfl)) rfl (by kernel_rfl) (fun _ _ _ h => h) (yieldsSoIn_of (by kernel_rfl) ?_ (fun _ => rfl)) q2 ?_; rotate_left; focus (intro wq hw; clear hw; go_simp; try (with_reducible rfl))
  refine wpHeldIn_take (i := 6) (v := ?_) (plain_of (by kernel_rfl)) rfl (by kernel_rfl) (fun _ _ _ h => h) (yieldsSoIn_of (by kernel_rfl) ?_ (fun _ => rfl)) q2 ?_; rotate_left; focus (intro wq hw; clear hw; go_simp; try (with_reducible rfl))
  refine wpHeldIn_take (i := 7) (v := ?_) (plain_of (by kernel_rfl)) rfl (by kernel_rfl) (fun _ _ _ h => h) (yieldsSoIn_of (by kernel_rfl) ?_ (fun _ => rfl)) q2 ?_; rotate_left; focus (intro wq hw; clear hw; go_simp; try (with_reducible rfl))
  refine wpHeldIn_take (i := 8) (v := ?_) (plain_of (by kernel_rfl)) rfl (by kernel_rfl) (fun _ _ _ h => h) (yieldsSoIn_of (by kernel_rfl) ?_ (fun _ => rfl)) q2 ?_; rotate_left; focus (intro wq hw; clear hw; go_simp; try (with_reducible rfl))
  refine wpHeldIn_done (by kernel_rfl) ?_ _
  go_simp
  refine noPanic_of ?_
  obtain ⟨A', c', rfl⟩ := ints_form hv.out
  clear KC bT bS q0 q2 hb2 hB1
  go_wp2_with fail
  go_loopw [8, 9, 17] (fun x8 x9 x17 wr => ∃ k : Nat, (k : Int) ≤ 9001 ∧ x17 = .int .i64 (k : Int) ∧ Below w2.heap.size w2 wr ∧ Hid (wr.ownsRow w2.heap.size 3 1 x8 (RT k).length ((RT k).map (Value.int .i64)))) (fun _ _ x17 _ => (9001 - intOf x17).toNat)
  case atStart => exact ⟨0, by omega, rfl, Below.refl _ _, by unfold Hid; rw [HR0.out]; exact World.ownsRow_nil _ _ _ _⟩
  case round =>
    obtain ⟨k, hk, rfl, hB, hO⟩ := hrel
    have hk0 := Int.natCast_nonneg k
    have hln := HRL.out k
    by_cases hlt : (k : Int) < 9001
    · have hw1 : IntKind.i64.wrap ((k : Int) + 1) = (k : Int) + 1 := IntWalk.i64_in _ (by omega)
      have hB3 : Below w2.heap.size w2 (wr.alloc (.cells #[.int .i64 (k : Int)] 3)) := hB.alloc hB.size _
      have bA3 := BoxS.new wr 3 #[.int .i64 (k : Int)]
      have hI3 := (hv.out.keep hB3).more hB3.size
      have HC3 := Lib.hid (HCF.out (k : Int) A' c' _ _ _ (by omega) hI3 bA3 (bS2.below hB3))
      have hO3 := Lib.hid (hO.out.alloc (.cells #[.int .i64 (k : Int)] 3))
      have hry := HRY.out k
      have hrn := HRN.out k
      clear hI3
      cases hsb : SB (k : Int)
      · have HL := Lib.hid (hrn hsb)
        rw [hsb] at HC3
        clear hry hrn hsb
        go_wp2_with fail
        refine HC3.out.mono ?_
        generalize World.alloc wr _ = w3 at *
        rintro e w4 ⟨rfl, hb4⟩
        have hB4 := hB3.trans (hb4.mono hB3.size)
        go_wp2_with fail
        go_roundw
        case rel => exact ⟨k + 1, by omega, by go_num, hB4, by rw [HL.out]; exact ownsRow_belowT hO3.out hb4⟩
        case measure => simp [intOf]; omega
      · have HL := Lib.hid (hry hsb)
        rw [hsb] at HC3
        clear hry hrn hsb
        generalize RT k = R at *
        go_wp2_with fail
        refine HC3.out.mono ?_
        generalize World.alloc wr _ = w3 at *
        rintro e w4 ⟨rfl, hb4⟩
        have hB4 := hB3.trans (hb4.mono hB3.size)
        have bA4 := bA3.below hb4
        have hO4 := Lib.hid (ownsRow_belowT hO3.out hb4)
        have a0 := bA4.cell 0 rfl
        have aL := bA4.lt
        go_wp2_with (at_builtin; refine wpList_pushi rfl (.tmp 23) (.tmp 25) rfl (k : Int) w2.heap.size _ _ _ rfl rfl hO4.out (by have := hB4.size; omega) (by omega) ?_; intro v' w5 hown5 hb5; have HO5 := Lib.hid hown5; have hB5 := hB4.trans hb5; clear hown5)
        go_roundw
        case rel => exact ⟨k + 1, by omega, by go_num, hB5, by unfold Hid; rw [HL.out, List.length_append, List.map_append]; exact HO5.out⟩
        case measure => simp [intOf]; omega
    · have ek : k = 9001 := by omega
      subst ek
      go_wp2_with fail
      go_returns
      exact ⟨_, rfl, Ints.of_own hO.out, hB2.trans (hB.mono hB2.size)⟩
end Go.Proofs.Ytkmacpkjobdffaa
