/- Trials: how many tests a set has. -/
import Derived.Test.YtkmacpkjobdffaaGreatTiP
namespace Go.Proofs.YtkmacpkjobdffaaGreat
open Go.RowKit Go.Maps
namespace Ti
/-- The tests of a set, ascending: the first ones. -/
def listTo (s : Nat) (k : Nat) : List Int := ((List.range k).filter fun i => decide (s / 2 ^ i % 2 = 1)).map fun i : Nat => (i : Int)
theorem listTo_yes {s k : Nat} (h : s / 2 ^ k % 2 = 1) : listTo s (k + 1) = listTo s k ++ [(k : Int)] := by
  unfold listTo
  rw [List.range_succ, List.filter_append, List.map_append]
  simp [h]
theorem listTo_no {s k : Nat} (h : ¬ s / 2 ^ k % 2 = 1) : listTo s (k + 1) = listTo s k := by
  unfold listTo
  rw [List.range_succ, List.filter_append, List.map_append]
  simp [h]
theorem listTo_len (s : Nat) (k : Nat) : (listTo s k).length ≤ k := by
  unfold listTo
  rw [List.length_map]
  exact Nat.le_trans (List.length_filter_le _ _) (by simp)
theorem bit_fin : ∀ (s : Fin 64) (k : Fin 6), (bits BinOp.and IntKind.u64 ((s.val : Int) / 2 ^ k.val) 1 == 1) = decide (s.val / 2 ^ k.val % 2 = 1) := by decide +kernel
theorem bit_any {s k : Nat} (hs : s < 64) (hk : k < 6) : (bits BinOp.and IntKind.u64 ((s : Int) / 2 ^ k) 1 == 1) = decide (s / 2 ^ k % 2 = 1) := bit_fin ⟨s, hs⟩ ⟨k, hk⟩
end Ti
set_option maxRecDepth 100000 in
set_option maxHeartbeats 4000000 in
theorem list_own (s : Nat) (hs : s < 64) (w : World) : Calls Tryz.prog 76 #[.int .u64 s] w fun e w' => ∃ v, e = .returned v ∧ Hid (w'.ownsRow w.heap.size 3 1 v (Ti.listTo s 6).length ((Ti.listTo s 6).map (Value.int .i64))) ∧ Below w.heap.size w w' := by
  go_enter Tryz.func76, Tryz.ntmps76
  go_wp2_with fail
  go_loopw [3, 4, 5] (fun x3 x4 x5 wr => ∃ (k : Nat) , (k : Int) ≤ 6 ∧ x5 = .int .i64 (k : Int) ∧ Below w.heap.size w wr ∧ Hid (wr.ownsRow w.heap.size 3 1 x3 (Ti.listTo s k).length ((Ti.listTo s k).map (Value.int .i64)))) (fun _ _ x5 _ => (6 - intOf x5).toNat)
  case atStart => exact ⟨0, by omega, rfl, Below.refl _ _, World.ownsRow_nil _ _ _ _⟩
  case round =>
    obtain ⟨k, hk, rfl, hB, hO⟩ := hrel
    have hk0 := Int.natCast_nonneg k
    by_cases hlt : (k : Int) < 6
    · have hw1 : IntKind.i64.wrap ((k : Int) + 1) = (k : Int) + 1 := IntWalk.i64_in _ (by omega)
      have hkn : k < 6 := by omega
      have hbit := Ti.bit_any hs hkn
      have hln := Ti.listTo_len s k
      by_cases hb : s / 2 ^ k % 2 = 1
      · rw [decide_eq_true hb] at hbit
        have HL := Lib.hid (Ti.listTo_yes hb)
        clear hb
        generalize Ti.listTo s k = L at *
        go_wp2_with (at_builtin; refine wpList_pushi rfl (.tmp 13) (.tmp 15) rfl (k : Int) w.heap.size _ _ _ rfl rfl hO.out (by have := hB.size; omega) (by omega) ?_; intro v' w5 hown5 hb5; have HO5 := Lib.hid hown5; have hB5 := hB.trans hb5; clear hown5)
        go_roundw
        case rel => exact ⟨k + 1, by omega, by go_num, hB5, by unfold Hid; rw [HL.out, List.length_append, List.map_append]; exact HO5.out⟩
        case measure => simp [intOf]; omega
      · rw [decide_eq_false hb] at hbit
        have HL := Lib.hid (Ti.listTo_no hb)
        clear hb
        go_wp2_with fail
        go_roundw
        case rel => exact ⟨k + 1, by omega, by go_num, hB, by rw [HL.out]; exact hO⟩
        case measure => simp [intOf]; omega
    · have ek : k = 6 := by omega
      subst ek
      go_wp2_with fail
      go_returns
      exact ⟨_, rfl, hO, hB⟩
theorem list_any (s : Nat) (hs : s < 64) (w : World) : Calls Tryz.prog 76 #[.int .u64 s] w (IntsPost (Ti.listTo s 6) w) := (list_own s hs w).mono fun e w' h => by
  obtain ⟨v, h1, h2, h3⟩ := h
  exact ⟨v, h1, Ints.of_own h2.out, h3⟩
end Go.Proofs.YtkmacpkjobdffaaGreat
namespace Go.Proofs.YtkmacpkjobdffaaGreat
open Go.RowKit Go.Maps
theorem ret_iT {u : Value} {a b : Int} (hu : u = .int .i64 a) (h : a = b) : Ending.returned u = Ending.returned (.int .i64 b) := by rw [hu, h]
set_option maxRecDepth 100000 in
set_option maxHeartbeats 4000000 in
theorem ones64_any (s : Nat) (hs : s < 64) (w : World) : Calls Tryz.prog 117 #[.int .u64 s] w fun e w' => e = .returned (.int .i64 ((Ti.listTo s 6).length : Int)) ∧ Below w.heap.size w w' := by
  go_enter Tryz.func117, Tryz.ntmps117
  go_wp2_with fail
  go_returns
  refine ⟨ret_iT rfl ?_, Below.refl _ _⟩
  clear w
  revert s
  decide +kernel
set_option maxHeartbeats 4000000 in
theorem ones_any (s : Nat) (hs : s < 64) (w : World) : Calls Tryz.prog 102 #[.int .u64 s] w fun e w' => e = .returned (.int .i64 ((Ti.listTo s 6).length : Int)) ∧ Below w.heap.size w w' := by
  have H := Lib.hid (fun W => ones64_any s hs W)
  generalize (Ti.listTo s 6).length = L at *
  go_enter Tryz.func102, Tryz.ntmps102
  go_wp2_with fail
  refine (H.out _).mono ?_
  rintro e w2 ⟨rfl, hb2⟩
  go_wp2_with fail
  go_returns
  exact ⟨rfl, hb2⟩
set_option maxHeartbeats 4000000 in
theorem count_any (s : Nat) (hs : s < 64) (w : World) : Calls Tryz.prog 74 #[.int .u64 s] w fun e w' => e = .returned (.int .i64 ((Ti.listTo s 6).length : Int)) ∧ Below w.heap.size w w' := by
  have H := Lib.hid (fun W => ones_any s hs W)
  generalize (Ti.listTo s 6).length = L at *
  go_enter Tryz.func74, Tryz.ntmps74
  go_wp2_with fail
  refine (H.out _).mono ?_
  rintro e w2 ⟨rfl, hb2⟩
  go_wp2_with fail
  go_returns
  exact ⟨rfl, hb2⟩
end Go.Proofs.YtkmacpkjobdffaaGreat
