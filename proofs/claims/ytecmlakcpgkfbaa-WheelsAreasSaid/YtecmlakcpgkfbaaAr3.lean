/- Wheels: the areas of truths, each once, by the reference. -/
import Derived.Test.YtecmlakcpgkfbaaKn3
import Derived.Test.YtecmlakcpgkfbaaSub3
namespace Go.Proofs.Ytecmlakcpgkfbaa
open Go.RowKit
theorem int_info3 : (Try.prog.info? 3).map (fun i => (i.zero, i.size, i.bytes)) = some (some (.int .i64 0), 1, 8) := by kernel_rfl
theorem owni_nil (w : World) (B : Nat) : w.ownsRow B 3 1 (.slice none 0 0) ([] : List Int).length (([] : List Int).map (Value.int .i64)) := ⟨by simp, .inl ⟨rfl, rfl⟩⟩
theorem owni_below {w w' : World} {B : Nat} {v : Value} {n : Nat} {xs : List Value} (h : w.ownsRow B 3 1 v n xs) (hb : Below w.heap.size w w') : w'.ownsRow B 3 1 v n xs :=
  h.kept (row := none) ⟨hb.os, hb.tape, hb.output, hb.size, fun k hk _ => hb.block k hk⟩ (by cases hv : v.ownBlock <;> simp)
theorem info_parts1w {o : Option TypeInfo} {z : Option Value} {n b : Nat} (h : o.map (fun i => (i.zero, i.size, i.bytes)) = some (z, n, b)) : ∃ i, o = some i ∧ i.zero = z ∧ i.size = n ∧ i.bytes = b := by
  cases o with
  | none => cases h
  | some i => simp at h; exact ⟨i, rfl, h.1, h.2.1, h.2.2⟩
/-- 'out = append(out, x)' on a row of the call's own. -/
theorem wpList_pushi {ops : Array Oper} {rest : List Oper} {o : Oper} {a : Act} {Q : Exit → Act → World → Prop} {wr : World} (hgd : o.guard = none) (s y : Operand)
    (ho : o.op = .call { callee := .builtin .append, args := #[s, y], argTypes := #[33, 33] }) (x : Int) (B : Nat) (v : Value) (n : Nat) (xs : List Value) (hs : a.eval s = v)
    (hx : a.eval y = .slice (some ⟨wr.heap.size, 0, none⟩) 1 1) (hown : wr.ownsRow B 3 1 v n xs) (hB : B ≤ wr.heap.size) (hn : n ≤ 100000)
    (h : ∀ v' w', w'.ownsRow B 3 1 v' (n + 1) (xs ++ [.int .i64 x]) → Below B wr w' → wpList Try.prog ops Q rest (a.put o.dst v') w') :
    wpList Try.prog ops Q (o :: rest) a (wr.alloc (.cells #[.int .i64 x] 3)) := by
  obtain ⟨i0, hi0, hz0, hz1, hz2⟩ := info_parts1w int_info3
  refine wpList_append_any _ hgd s y 33 ho B 3 i0 (.int .i64 0) 1 8 Try.underlying33 hi0 hz0 hz1 hz2 rfl (by decide) v n xs hs (hown.alloc _) (wr.heap.size + 1) (some ⟨wr.heap.size, 0, none⟩) 1 1 [.int .i64 x] hx ?_ ?_ ?_ ?_ ?_ ?_
  · refine ⟨rfl, fun _ => ⟨_, rfl, by simp, fun j u hu => ?_⟩⟩
    rcases j with _ | j
    · have hu' : u = .int .i64 x := by simpa using hu.symm
      subst hu'
      show (wr.alloc _).cell? ⟨wr.heap.size, 0, none⟩ = _
      go_cell
    · simp at hu
  · intro u hu
    simp at hu
    subst hu
    rfl
  · simp only [maxLen]; omega
  · omega
  · simp; omega
  · intro v' w' hown' hg _
    exact h v' w' hown' (((Below.refl B wr).alloc hB _).grown hg (by simp; omega) (fun j hj => (hown.lt j hj).1))
theorem owni_form {w : World} {B : Nat} {e : TypeId} {v : Value} {n : Nat} {xs : List Value} (h : w.ownsRow B e 1 v n xs) : ∃ A c, v = .slice A n c := by
  rcases h.2 with ⟨rfl, rfl⟩ | ⟨g, cap, cur, rfl, _⟩
  · exact ⟨none, 0, rfl⟩
  · exact ⟨some ⟨g, 0, none⟩, cap, rfl⟩
namespace Wh
/-- The first numbers of the first pairs, each once. -/
def arTo (P : List Tr) : Nat → List Int
  | 0 => []
  | k + 1 => if (trAt P k).1 ∈ arTo P k then arTo P k else arTo P k ++ [(trAt P k).1]
def arL (P : List Tr) : List Int := arTo P P.length
theorem arTo_len (P : List Tr) : ∀ k, (arTo P k).length ≤ k
  | 0 => Nat.le_refl _
  | k + 1 => by
    have := arTo_len P k
    unfold arTo
    split
    · omega
    · simp; omega
theorem arTo_mem (P : List Tr) (x : Int) : ∀ k, x ∈ arTo P k ↔ ∃ j, j < k ∧ (trAt P j).1 = x
  | 0 => by simp [arTo]
  | k + 1 => by
    have ih := arTo_mem P x k
    have key : x ∈ arTo P (k + 1) ↔ x ∈ arTo P k ∨ (trAt P k).1 = x := by
      have e : arTo P (k + 1) = if (trAt P k).1 ∈ arTo P k then arTo P k else arTo P k ++ [(trAt P k).1] := rfl
      rw [e]
      split
      · rename_i h
        constructor
        · exact .inl
        · rintro (h2 | h2)
          · exact h2
          · rw [← h2]; exact h
      · rw [List.mem_append, List.mem_singleton]
        constructor
        · rintro (h2 | h2)
          · exact .inl h2
          · exact .inr h2.symm
        · rintro (h2 | h2)
          · exact .inl h2
          · exact .inr h2.symm
    rw [key, ih]
    constructor
    · rintro (⟨j, h1, h2⟩ | h)
      · exact ⟨j, by omega, h2⟩
      · exact ⟨k, by omega, h⟩
    · rintro ⟨j, h1, h2⟩
      by_cases e : j = k
      · subst e; exact .inr h2
      · exact .inl ⟨j, by omega, h2⟩
theorem arTo_nodup (P : List Tr) : ∀ k, (arTo P k).Nodup
  | 0 => List.nodup_nil
  | k + 1 => by
    have ih := arTo_nodup P k
    unfold arTo
    split
    · exact ih
    · rename_i h
      rw [List.nodup_append]
      refine ⟨ih, by simp, fun a ha b hb => ?_⟩
      rw [List.mem_singleton] at hb
      subst hb
      exact fun e => h (e ▸ ha)
theorem trAt_mem {P : List Tr} {x : Int} : (∃ j, j < P.length ∧ (trAt P j).1 = x) ↔ ∃ t ∈ P, t.1 = x := by
  constructor
  · rintro ⟨j, hj, h⟩
    refine ⟨P[j], List.getElem_mem hj, ?_⟩
    unfold trAt at h
    rw [List.getElem?_eq_getElem hj] at h
    exact h
  · rintro ⟨t, ht, h⟩
    obtain ⟨j, hj, rfl⟩ := List.getElem_of_mem ht
    refine ⟨j, hj, ?_⟩
    unfold trAt
    rw [List.getElem?_eq_getElem hj]
    exact h
theorem arL_mem (P : List Tr) (x : Int) : x ∈ arL P ↔ ∃ t ∈ P, t.1 = x := (arTo_mem P x _).trans trAt_mem
theorem arL_nodup (P : List Tr) : (arL P).Nodup := arTo_nodup P _
theorem arL_len (P : List Tr) : (arL P).length ≤ P.length := arTo_len P _
end Wh
theorem in3_any (v : Value) (xs : List Int) (n : Int) (w : World) (hx : Ints w w.heap.size v xs) (hl : xs.length ≤ 1000000000) :
    Calls Try.prog 82 #[v, .int .i64 n] w fun e w' => e = .returned (.bool (decide (n ∈ xs))) ∧ w' = w := by
  have HI := Lib.hid (In_any v xs n w hx hl)
  clear hx hl
  go_enter Try.func82, Try.ntmps82
  go_wp2_with fail
  refine HI.out.mono ?_
  rintro e wq ⟨rfl, hq⟩
  have hq := hq.symm
  subst hq
  go_wp2_with fail
  go_returns
  exact ⟨rfl, rfl⟩
def IntsPost (L : List Int) (w : World) (e : Ending) (w' : World) : Prop := ∃ v : Value, e = .returned v ∧ Hid (Ints w' w'.heap.size v L) ∧ Below w.heap.size w w'
set_option maxRecDepth 100000 in
set_option maxHeartbeats 4000000 in
theorem areas3_any (A : Option Addr) (c : Nat) (P : List Wh.Tr) (hl : P.length ≤ 90000) (w : World) (hP : Prs w w.heap.size A P) :
    Calls Try.prog 60 #[.slice A P.length c] w (IntsPost (Wh.arL P) w) := by
  have HP := Lib.hid hP
  have HA0 : Hid (Wh.arTo P 0 = []) := rfl
  have HAS : Hid (∀ k, Wh.arTo P (k + 1) = if (Wh.trAt P k).1 ∈ Wh.arTo P k then Wh.arTo P k else Wh.arTo P k ++ [(Wh.trAt P k).1]) := fun k => rfl
  have HAN : Hid (Wh.arL P = Wh.arTo P P.length) := rfl
  have HAL : Hid (∀ k, (Wh.arTo P k).length ≤ k) := Wh.arTo_len P
  generalize Wh.arTo P = AT at *
  generalize Wh.arL P = AR at *
  clear hP
  go_enter Try.func60, Try.ntmps60
  go_wp2_with fail
  go_loopg [3, 4] P.length (fun g x3 x4 wx => ∃ k : Nat, Hid (k + g = P.length) ∧ (k : Int) ≤ P.length ∧ x4 = .int .i64 (k : Int) ∧ Below w.heap.size w wx ∧ wx.ownsRow w.heap.size 3 1 x3 (AT k).length ((AT k).map (Value.int .i64)))
  case atStart => exact ⟨0, by simp [Hid], by omega, rfl, Below.refl _ _, by rw [HA0.out]; exact owni_nil _ _⟩
  case round =>
    obtain ⟨k, hk, hk1, rfl, hB, hown⟩ := hrel
    have hk0 := Int.natCast_nonneg k
    by_cases hlt : (k : Int) < P.length
    · have hkn : k < P.length := by omega
      have hPk : P[k]? = some (Wh.trAt P k) := by unfold Wh.trAt; rw [List.getElem?_eq_getElem hkn]; rfl
      obtain ⟨bp, op, rfl, hbp, hcp⟩ := HP.out (by omega)
      obtain ⟨h0, h1⟩ := hcp k _ hPk
      have a0 := (hB.cell (p := ⟨bp, _, none⟩) hbp).trans h0
      have HS := Lib.hid (HAS.out k)
      have hln := HAL.out k
      have hI := Lib.hid (Ints.of_own hown)
      have HO := Lib.hid hown
      have hlb := hB.size
      have hlb5 : bp < wr.heap.size := by omega
      have hw1 : IntKind.i64.wrap ((k : Int) + 1) = (k : Int) + 1 := IntWalk.i64_in _ (by omega)
      clear h0 h1 hcp hPk hown HAS
      generalize AT k = L at *
      generalize Wh.trAt P k = q at *
      obtain ⟨q1, q2⟩ := q
      dsimp only at a0 HS
      have HIN : Hid (Calls Try.prog 82 #[u3, .int .i64 q1] wr fun e w' => e = .returned (.bool (decide (q1 ∈ L))) ∧ w' = wr) := in3_any u3 L q1 wr hI.out (by omega)
      cases hin : decide (q1 ∈ L) with
      | true =>
        rw [hin] at HIN
        have HS2 : Hid (AT (k + 1) = L) := by unfold Hid; rw [HS.out, if_pos (of_decide_eq_true hin)]
        clear hin
        go_wp2_with fail
        refine HIN.out.mono ?_
        rintro e wq ⟨rfl, hq⟩
        have hq := hq.symm
        subst hq
        go_wp2_with fail
        obtain ⟨g', hg'⟩ : ∃ g', gk = g' + 1 := ⟨gk - 1, by have := hk.out; omega⟩
        go_roundg g'
        case measure => omega
        case rel => exact ⟨k + 1, by have := hk.out; simp only [Hid]; omega, by omega, by go_num, hB, by rw [HS2.out]; exact HO.out⟩
      | false =>
        rw [hin] at HIN
        have HS2 : Hid (AT (k + 1) = L ++ [q1]) := by unfold Hid; rw [HS.out, if_neg (of_decide_eq_false hin)]
        clear hin
        go_wp2_with fail
        refine HIN.out.mono ?_
        rintro e wq ⟨rfl, hq⟩
        have hq := hq.symm
        subst hq
        go_wp2_with (at_builtin; refine wpList_pushi rfl (.tmp 19) (.tmp 25) rfl q1 w.heap.size _ _ _ rfl rfl HO.out (by omega) (by omega) ?_; intro v' w5 hown5 hb5; have HO5 := Lib.hid hown5; clear hown5)
        obtain ⟨g', hg'⟩ : ∃ g', gk = g' + 1 := ⟨gk - 1, by have := hk.out; omega⟩
        go_roundg g'
        case measure => omega
        case rel =>
          refine ⟨k + 1, by have := hk.out; simp only [Hid]; omega, by omega, by go_num, hB.trans hb5, ?_⟩
          rw [HS2.out, List.length_append, List.map_append]
          exact HO5.out
    · have ek : k = P.length := by omega
      rw [ek, ← HAN.out] at hown
      have hI := Lib.hid (Ints.of_own hown)
      clear hown ek
      go_wp2_with fail
      go_returns
      exact ⟨_, rfl, hI, hB⟩
end Go.Proofs.Ytecmlakcpgkfbaa
