/- Contracts for ArmsGlances: a number in a slice, a slice within another one; a glance appended. -/
import Derived.Test.YtfjcmmdfipppoaaGlanP
import Derived.Test.YtfjcmmdfipppoaaSeenWalk
import Derived.Deep.RegionLaw
namespace Go.Proofs.Ytfjcmmdfipppoaa
open Go.RowKit
theorem ints_form {w : World} {B : Nat} {v : Value} {xs : List Int} (h : Ints w B v xs) : ∃ A c, v = .slice A xs.length c := by
  rcases h with ⟨rfl, rfl⟩ | ⟨b, off, cap, rfl, _⟩
  · exact ⟨none, 0, rfl⟩
  · exact ⟨_, cap, rfl⟩

set_option maxHeartbeats 1000000 in
theorem In_any (v : Value) (xs : List Int) (n : Int) (w : World) (hx : Ints w w.heap.size v xs) (hl : xs.length ≤ 1000000000) :
    Calls Try.prog 49 #[v, .int .i64 n] w fun e w' => e = .returned (.bool (decide (n ∈ xs))) ∧ w' = w := by
  obtain ⟨A, c, rfl⟩ := ints_form hx
  have HX := Lib.hid hx
  clear hx
  go_enter Try.func49, Try.ntmps49
  go_wp2_with fail
  go_loop [5] (fun x => ∃ k : Nat, (k : Int) ≤ xs.length ∧ x = .int .i64 k ∧ Hid (∀ i y, i < k → xs[i]? = some y → y ≠ n)) (fun x => (xs.length - intOf x).toNat)
  case atStart => exact ⟨0, by omega, rfl, fun i y hi => by omega⟩
  case round =>
    obtain ⟨k, hk, rfl, hall⟩ := hrel
    have hk0 := Int.natCast_nonneg k
    by_cases hlt : (k : Int) < xs.length
    · have hkl : k < xs.length := by omega
      have hgk : xs[k]? = some xs[k] := List.getElem?_eq_getElem hkl
      rcases HX.out with ⟨_, e⟩ | ⟨b, off, cap, e, hb, hc⟩
      · subst e; simp at hkl
      · injection e with eA _ ec
        subst eA ec
        have c0 := hc k _ hgk
        have HK := Lib.hid hgk
        clear hc hgk HX
        generalize xs[k] = x at *
        by_cases hxn : x = n
        · have hxB : (x == n) = true := by simpa using hxn
          have hin : Hid (n ∈ xs) := by rw [← hxn]; exact List.mem_of_getElem? HK.out
          clear hxn
          go_wp2_with fail
          go_ret
          exact ⟨ret_b (by simpa using hin.out), rfl⟩
        · have hxB : (x == n) = false := by simpa using hxn
          have hne := Lib.hid hxn
          clear hxn
          go_wp2_with fail
          go_round
          case rel => exact ⟨k + 1, by omega, by go_num, fun i y hi hy => by
            by_cases e : i = k
            · subst e
              rw [HK.out] at hy
              injection hy with hy
              subst hy
              exact hne.out
            · exact hall.out i y (by omega) hy⟩
          case measure => simp [intOf]; omega
    · have hno : Hid (¬ n ∈ xs) := fun h => by
        obtain ⟨i, hi, e⟩ := List.getElem_of_mem h
        exact hall.out i n (by omega) (by rw [← e]; exact List.getElem?_eq_getElem hi) rfl
      go_wp2_with fail
      go_ret
      exact ⟨ret_b (by simpa using hno.out), rfl⟩

set_option maxHeartbeats 1000000 in
theorem subset_yes (v v' : Value) (xs ys : List Int) (w : World) (hx : Ints w w.heap.size v xs) (hy : Ints w w.heap.size v' ys) (hl : xs.length ≤ 1000000000) (hl' : ys.length ≤ 1000000000) (hsub : ∀ x ∈ xs, x ∈ ys) (hlen : xs.length ≤ ys.length) :
    Calls Try.prog 50 #[v, v'] w fun e w' => e = .returned (.bool true) ∧ w' = w := by
  obtain ⟨A, c, rfl⟩ := ints_form hx
  obtain ⟨A', c', rfl⟩ := ints_form hy
  have HX := Lib.hid hx
  have HY := Lib.hid hy
  have HS := Lib.hid hsub
  have hle : (xs.length : Int) ≤ ys.length := by omega
  clear hx hy hsub
  go_enter Try.func50, Try.ntmps50
  go_wp2_with fail
  go_loop [5] (fun x => ∃ k : Nat, (k : Int) ≤ xs.length ∧ x = .int .i64 k) (fun x => (xs.length - intOf x).toNat)
  case atStart => exact ⟨0, by omega, rfl⟩
  case round =>
    obtain ⟨k, hk, rfl⟩ := hrel
    have hk0 := Int.natCast_nonneg k
    by_cases hlt : (k : Int) < xs.length
    · have hkl : k < xs.length := by omega
      have hgk : xs[k]? = some xs[k] := List.getElem?_eq_getElem hkl
      rcases HX.out with ⟨_, e⟩ | ⟨b, off, cap, e, hb, hc⟩
      · subst e; simp at hkl
      · injection e with eA _ ec
        subst eA ec
        have c0 := hc k _ hgk
        have hin : Hid (decide (xs[k] ∈ ys) = true) := by simpa [Hid] using HS.out _ (List.mem_of_getElem? hgk)
        clear hc hgk HX
        generalize xs[k] = x at *
        go_wp2_with fail
        refine (In_any _ ys x _ HY.out hl').mono ?_
        rintro e w1 ⟨rfl, rfl⟩
        rw [hin.out]
        go_wp2_with fail
        go_round
        case rel => exact ⟨k + 1, by omega, by go_num⟩
        case measure => simp [intOf]; omega
    · go_wp2_with fail
      all_goals first | (exfalso; omega) | (go_ret; exact ⟨rfl, rfl⟩) | (go_ret; exact ⟨ret_b (by simp; omega), rfl⟩)

theorem reads_pair (w : World) (T : TypeId) (g : Int × Int) : Reads (w.alloc (.cells #[.int .i64 g.1, .int .i64 g.2] T)) (w.heap.size + 1) 2 (some ⟨w.heap.size, 0, none⟩) 1 (flat [g]) := by
  refine ⟨rfl, fun _ => ⟨_, rfl, by simp, fun j u hu => ?_⟩⟩
  match j with
  | 0 =>
    have hu' : u = .int .i64 g.1 := by simpa [flat] using hu.symm
    subst hu'
    show (w.alloc _).cell? ⟨w.heap.size, 0, none⟩ = _
    go_cell
  | 1 =>
    have hu' : u = .int .i64 g.2 := by simpa [flat] using hu.symm
    subst hu'
    show (w.alloc _).cell? ⟨w.heap.size, 1, none⟩ = _
    go_cell
  | j + 2 => simp [flat] at hu
/-- 'back = append(back, g)' on a row of the call's own. -/
theorem wpList_pushp {ops : Array Oper} {rest : List Oper} {o : Oper} {a : Act} {Q : Exit → Act → World → Prop} {wr : World} (hgd : o.guard = none) (s y : Operand)
    (ho : o.op = .call { callee := .builtin .append, args := #[s, y], argTypes := #[46, 46] }) (g : Int × Int) (B : Nat) (v : Value) (n : Nat) (xs : List Value) (hs : a.eval s = v)
    (hx : a.eval y = .slice (some ⟨wr.heap.size, 0, none⟩) 1 1) (hown : wr.ownsRow B 53 2 v n xs) (hB : B ≤ wr.heap.size) (hn : n ≤ 100000)
    (h : ∀ v' w', w'.ownsRow B 53 2 v' (n + 1) (xs ++ flat [g]) → Below B wr w' → wpList Try.prog ops Q rest (a.put o.dst v') w') :
    wpList Try.prog ops Q (o :: rest) a (wr.alloc (.cells #[.int .i64 g.1, .int .i64 g.2] 53)) := by
  obtain ⟨i0, hi0, hz0, hz1, hz2⟩ := info_parts glance_info
  refine wpList_append_any _ hgd s y 46 ho B 53 i0 (.agg #[.int .i64 0, .int .i64 0]) 2 16 Try.underlying46 hi0 hz0 hz1 hz2 rfl (by decide) v n xs hs (hown.alloc _) (wr.heap.size + 1) (some ⟨wr.heap.size, 0, none⟩) 1 1 (flat [g]) hx (reads_pair wr _ g) (flat_one [g]) (by simp only [maxLen]; omega) (by omega) (by simp; omega) ?_
  intro v' w' hown' hgr _
  exact h v' w' hown' (((Below.refl B wr).alloc hB _).grown hgr (by simp; omega) (fun j hj => (hown.lt j hj).1))

theorem heap_alloc_at {w : World} {o : Obj} {b : Nat} (h : b = w.heap.size) : (w.alloc o).heap[b]? = some o := by
  subst h
  show (w.heap.push o)[w.heap.size]? = _
  simp
section
variable {ops : Array Oper} {o : Oper} {a : Act} {W : World} {K : Act → World → Prop} {Q : Exit → Act → World → Prop} {E : Prop}
theorem wp_append_step (s x : Operand) (hgd : o.guard = none) (ho : o.op = .call { callee := .builtin .append, args := #[s, x], argTypes := #[46, 46] })
    (base : Nat) (v : Value) (n : Nat) (xs : List Value) (hs : a.eval s = v) (hown : W.ownsRow base 53 2 v n xs)
    (B : Nat) (A : Option Addr) (m c : Nat) (news : List Value) (hx : a.eval x = .slice A m c) (hr : Reads W B 2 A m news) (h1 : ∀ u ∈ news, u.oneCell' = true) (hn : n + m ≤ 1000000000) (hbase : base ≤ W.heap.size)
    (h : ∀ v' w', w'.ownsRow base 53 2 v' (n + m) (xs ++ news) → W.grownBy w' v.ownBlock → K (a.put o.dst v') w') :
    if Region.wanted o (yielded ops a.tmps) = true then Oper.wp Try.prog o a W K Q else E := by
  obtain ⟨i0, hi0, hz0, hz1, hz2⟩ := info_parts glance_info
  have hw : Region.wanted o (yielded ops a.tmps) = true := by simp [Region.wanted, hgd]
  rw [if_pos hw]
  exact wp_append_any W s x 46 ho base 53 i0 (.agg #[.int .i64 0, .int .i64 0]) 2 16 Try.underlying46 hi0 hz0 hz1 hz2 rfl (by decide) v n xs hs hown B A m c news hx hr h1 (by simp only [maxLen]; omega) (by omega) hbase (fun v' w' h2 h3 _ => h v' w' h2 h3)
/-- The copy, wherever the empty slice was made. -/
theorem step_copy (s x : Operand) (hgd : o.guard = none) (ho : o.op = .call { callee := .builtin .append, args := #[s, x], argTypes := #[46, 46] })
    {w0 : World} (b : Nat) (A : Option Addr) (c : Nat) (gs : List (Int × Int)) (hs : a.eval s = .slice (some ⟨b, 0, none⟩) 0 0) (hx : a.eval x = .slice A gs.length c) (hn : gs.length ≤ 100) (hg : Prs w0 w0.heap.size A gs) (hb0 : Below w0.heap.size w0 W)
    (hblk : W.heap[b]? = some (.cells #[] 53 (0, 0))) (hb : w0.heap.size ≤ b)
    (h : ∀ A' c' w', w'.ownsRow w0.heap.size 53 2 (.slice A' gs.length c') gs.length (flat gs) → Below w0.heap.size w0 w' → W.grownBy w' (some b) → K (a.put o.dst (.slice A' gs.length c')) w') :
    if Region.wanted o (yielded ops a.tmps) = true then Oper.wp Try.prog o a W K Q else E := by
  have hown : W.ownsRow w0.heap.size 53 2 (.slice (some ⟨b, 0, none⟩) 0 0) 0 [] := ⟨rfl, .inr ⟨b, 0, #[], rfl, hb, hblk, Nat.le_refl _, by simp [maxLen], rfl, rfl⟩⟩
  refine wp_append_step s x hgd ho w0.heap.size _ 0 [] hs hown w0.heap.size A gs.length c (flat gs) hx (hg.keep hb0).reads (flat_one gs) (by omega) hb0.size ?_
  intro v' w' hown' hgr
  rw [Nat.zero_add, List.nil_append] at hown'
  obtain ⟨A', c', rfl⟩ := own_form hown'
  exact h A' c' w' hown' (hb0.grown hgr hb0.size (fun j hj => by
    have : j = b := by simpa [Value.ownBlock] using hj.symm
    omega)) hgr
/-- One more glance, wherever it was made. -/
theorem step_pushp (s x : Operand) (hgd : o.guard = none) (ho : o.op = .call { callee := .builtin .append, args := #[s, x], argTypes := #[46, 46] })
    {w0 : World} (b : Nat) (g : Int × Int) (gs : List (Int × Int)) (A : Option Addr) (c : Nat) (hs : a.eval s = .slice A gs.length c) (hx : a.eval x = .slice (some ⟨b, 0, none⟩) 1 1) (hn : gs.length ≤ 100) (hb0 : Below w0.heap.size w0 W)
    (hown : W.ownsRow w0.heap.size 53 2 (.slice A gs.length c) gs.length (flat gs)) (hblk : W.heap[b]? = some (.cells #[.int .i64 g.1, .int .i64 g.2] 53 (0, 0)))
    (h : ∀ A' c' w', w'.ownsRow w0.heap.size 53 2 (.slice A' (gs.length + 1) c') (gs.length + 1) (flat (gs ++ [g])) → Below w0.heap.size w0 w' → K (a.put o.dst (.slice A' (gs.length + 1) c')) w') :
    if Region.wanted o (yielded ops a.tmps) = true then Oper.wp Try.prog o a W K Q else E := by
  have hlt : b < W.heap.size := by
    rcases Nat.lt_or_ge b W.heap.size with hl | hl
    · exact hl
    · rw [Array.getElem?_eq_none hl] at hblk; cases hblk
  have hr : Reads W W.heap.size 2 (some ⟨b, 0, none⟩) 1 (flat [g]) := by
    refine ⟨rfl, fun _ => ⟨_, rfl, hlt, fun j u hu => ?_⟩⟩
    match j with
    | 0 =>
      have hu' : u = .int .i64 g.1 := by simpa [flat] using hu.symm
      subst hu'
      show W.cell? ⟨b, 0, none⟩ = _
      simp [World.cell?, hblk]
    | 1 =>
      have hu' : u = .int .i64 g.2 := by simpa [flat] using hu.symm
      subst hu'
      show W.cell? ⟨b, 1, none⟩ = _
      simp [World.cell?, hblk]
    | j + 2 => simp [flat] at hu
  refine wp_append_step s x hgd ho w0.heap.size _ gs.length (flat gs) hs hown W.heap.size _ 1 1 (flat [g]) hx hr (flat_one [g]) (by omega) hb0.size ?_
  intro v' w' hown' hgr
  rw [← flat_append] at hown'
  obtain ⟨A', c', rfl⟩ := own_form hown'
  exact h A' c' w' hown' (hb0.grown hgr hb0.size (fun j hj => (hown.lt j hj).1))
end
end Go.Proofs.Ytfjcmmdfipppoaa
