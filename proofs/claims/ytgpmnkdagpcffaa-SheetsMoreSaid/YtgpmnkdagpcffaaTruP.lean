/- Sheets: what each answer says of one truth; whether a list has a number. -/
import Derived.Test.YtgpmnkdagpcffaaFac
import Derived.Test.YtgpmnkdagpcffaaLen4
import Derived.Test.YtgpmnkdagpcffaaAgr
namespace Go.Proofs.Ytgpmnkdagpcffaa
open Go.RowKit
namespace Sh
theorem low_le (N D : FaS → Int) (L : List FaS) {x : FaS} (hx : x ∈ L) : lowF N D L ≤ (N x).tdiv (D x) := by
  have mono : ∀ (L : List FaS) (a : Int), L.foldl (fun l x => lowS l ((N x).tdiv (D x))) a ≤ a := by
    intro L
    induction L with
    | nil => exact fun a => Int.le_refl _
    | cons y l ih =>
      intro a
      rw [List.foldl_cons]
      refine Int.le_trans (ih _) ?_
      unfold lowS
      split <;> omega
  have key : ∀ (L : List FaS) (a : Int), x ∈ L → L.foldl (fun l x => lowS l ((N x).tdiv (D x))) a ≤ (N x).tdiv (D x) := by
    intro L
    induction L with
    | nil => intro a h; cases h
    | cons y l ih =>
      intro a h
      rw [List.foldl_cons]
      rcases List.mem_cons.1 h with rfl | h
      · refine Int.le_trans (mono l _) ?_
        unfold lowS
        split <;> omega
      · exact ih _ h
  exact key L _ hx
theorem high_ge (N D : FaS → Int) (L : List FaS) {x : FaS} (hx : x ∈ L) : (N x + D x - 1).tdiv (D x) ≤ highF N D L := by
  have mono : ∀ (L : List FaS) (a : Int), a ≤ L.foldl (fun h x => highS h ((N x + D x - 1).tdiv (D x))) a := by
    intro L
    induction L with
    | nil => exact fun a => Int.le_refl _
    | cons y l ih =>
      intro a
      rw [List.foldl_cons]
      refine Int.le_trans ?_ (ih _)
      unfold highS
      split <;> omega
  have key : ∀ (L : List FaS) (a : Int), x ∈ L → (N x + D x - 1).tdiv (D x) ≤ L.foldl (fun h x => highS h ((N x + D x - 1).tdiv (D x))) a := by
    intro L
    induction L with
    | nil => intro a h; cases h
    | cons y l ih =>
      intro a h
      rw [List.foldl_cons]
      rcases List.mem_cons.1 h with rfl | h
      · refine Int.le_trans ?_ (mono l _)
        unfold highS
        split <;> omega
      · exact ih _ h
  exact key L _ hx
theorem low_ge (N D : FaS → Int) (L : List FaS) {M : Int} (hM : M ≤ 9223372036854775807) (h : ∀ x ∈ L, M ≤ (N x).tdiv (D x)) : M ≤ lowF N D L := by
  have key : ∀ (L : List FaS) (a : Int), M ≤ a → (∀ x ∈ L, M ≤ (N x).tdiv (D x)) → M ≤ L.foldl (fun l x => lowS l ((N x).tdiv (D x))) a := by
    intro L
    induction L with
    | nil => exact fun a h _ => h
    | cons y l ih =>
      intro a ha hl
      rw [List.foldl_cons]
      refine ih _ ?_ (fun x hx => hl x (by simp [hx]))
      have := hl y (by simp)
      unfold lowS
      split <;> omega
  exact key L _ hM h
theorem high_le (N D : FaS → Int) (L : List FaS) {M : Int} (hM : 0 ≤ M) (h : ∀ x ∈ L, (N x + D x - 1).tdiv (D x) ≤ M) : highF N D L ≤ M := by
  have key : ∀ (L : List FaS) (a : Int), a ≤ M → (∀ x ∈ L, (N x + D x - 1).tdiv (D x) ≤ M) → L.foldl (fun h x => highS h ((N x + D x - 1).tdiv (D x))) a ≤ M := by
    intro L
    induction L with
    | nil => exact fun a h _ => h
    | cons y l ih =>
      intro a ha hl
      rw [List.foldl_cons]
      refine ih _ ?_ (fun x hx => hl x (by simp [hx]))
      have := hl y (by simp)
      unfold highS
      split <;> omega
  exact key L _ hM h
/-- A quotient, and the one that is rounded up. -/
theorem quo_facts {n d m : Int} (hn : 0 ≤ n) (hd : m ≤ d) (hm : 1 ≤ m) : 0 ≤ n.tdiv d ∧ n.tdiv d ≤ n.tdiv d ∧ n.tdiv d * d ≤ n ∧ n ≤ (n + d - 1).tdiv d * d ∧ n.tdiv d ≤ (n + d - 1).tdiv d ∧ (0 < n → (n - 1).tdiv d < (n + d - 1).tdiv d) ∧ ((n + d - 1).tdiv d - 1) * m ≤ n := by
  rw [Int.tdiv_eq_ediv_of_nonneg hn, Int.tdiv_eq_ediv_of_nonneg (by omega)]
  have h1 := Int.mul_ediv_add_emod n d
  have h2 := Int.emod_nonneg n (show d ≠ 0 by omega)
  have h3 := Int.emod_lt_of_pos n (show 0 < d by omega)
  have g1 := Int.mul_ediv_add_emod (n + d - 1) d
  have g2 := Int.emod_nonneg (n + d - 1) (show d ≠ 0 by omega)
  have g3 := Int.emod_lt_of_pos (n + d - 1) (show 0 < d by omega)
  have h4 := Int.ediv_nonneg hn (show 0 ≤ d by omega)
  have g4 := Int.ediv_nonneg (show 0 ≤ n + d - 1 by omega) (show 0 ≤ d by omega)
  have le := Int.ediv_le_ediv (show 0 < d by omega) (show n ≤ n + d - 1 by omega)
  have e1 : (n + d - 1) / d = (n - 1) / d + 1 := by rw [show n + d - 1 = (n - 1) + 1 * d from by omega, Int.add_mul_ediv_right _ _ (by omega)]
  rw [Int.mul_comm] at h1 g1
  refine ⟨h4, Int.le_refl _, by omega, by omega, le, fun h => ?_, ?_⟩
  · rw [Int.tdiv_eq_ediv_of_nonneg (by omega)]
    omega
  · generalize (n + d - 1) / d = y at *
    by_cases hy : y = 0
    · rw [hy]; omega
    · have := Int.mul_le_mul_of_nonneg_left hd (show 0 ≤ y - 1 by omega)
      have e2 : (y - 1) * d = y * d - d := by rw [Int.sub_mul]; omega
      omega
theorem truth_ok {s : Sheet} (hs : Ok s) {f : Fa} (h : truthB s f = true) : fsm f ∧ faOf f ∈ truthsL s := by
  have hf := one_fsm hs h
  refine ⟨hf, ?_⟩
  obtain ⟨⟨⟨h1, h2⟩, h3, h4⟩, h5⟩ := truth_parts h
  have q1 := hs.a1
  have q2 := hs.a3
  have q3 := hs.b1
  have q4 := hs.b3
  unfold truthsL
  rw [List.mem_filter]
  constructor
  · unfold casesL casesTo rowTo na nb
    rw [List.mem_flatMap]
    refine ⟨(f.1 - s.al).toNat, by rw [List.mem_range]; omega, ?_⟩
    rw [List.mem_map]
    refine ⟨(f.2 - s.bl).toNat, by rw [List.mem_range]; omega, ?_⟩
    congr 1
    apply Prod.ext
    · show s.al + _ = f.1; omega
    · show s.bl + _ = f.2; omega
  · unfold trB
    rw [faOf_val hf]
    exact decide_eq_true h5
theorem truth_sp {s : Sheet} (hok : okB s = true) {f : Fa} (h : truthB s f = true) : spE s = 0 :=
  sp_yes hok (fun e => by have := (truth_ok (ok_of hok) h).2; rw [e] at this; cases this)
theorem areaD_ge {s : Sheet} (hs : Ok s) {x : FaS} (hx : x ∈ truthsL s) : 810000 ≤ areaD x := by
  have hc := cases_in hs (List.mem_filter.1 hx).1
  have h1 := hs.a1
  have h3 := hs.b1
  have : 900 * 900 ≤ x.1.1 * x.1.2 := Int.mul_le_mul (by omega) (by omega) (by omega) (by omega)
  unfold areaD
  omega
theorem sqD_ge {s : Sheet} (hs : Ok s) {x : FaS} (hx : x ∈ truthsL s) : 656100000000 ≤ sqD x := by
  have hc := cases_in hs (List.mem_filter.1 hx).1
  have h1 := hs.a1
  have h3 := hs.b1
  have e1 : 900 * 900 ≤ x.1.1 * x.1.1 := Int.mul_le_mul (by omega) (by omega) (by omega) (by omega)
  have e2 : 900 * 900 ≤ x.1.2 * x.1.2 := Int.mul_le_mul (by omega) (by omega) (by omega) (by omega)
  have : 900 * 900 * (900 * 900) ≤ x.1.1 * x.1.1 * (x.1.2 * x.1.2) := Int.mul_le_mul e1 e2 (by omega) (by omega)
  unfold sqD
  omega
/-- What the bounds of a fraction say of one truth. -/
theorem bounds_true (N D : FaS → Int) (L : List FaS) {m : Int} (hN : ∀ x, 0 ≤ N x ∧ N x ≤ 1280000000000000000) (hD : ∀ x ∈ L, m ≤ D x) (hm : 810000 ≤ m) (hb : ∀ x, N x ≤ 1000000000 * m) {x : FaS} (hx : x ∈ L) :
    saneB (lowF N D L) (highF N D L) = true ∧ lowF N D L * D x ≤ N x ∧ N x ≤ highF N D L * D x ∧ lowF N D L ≤ (N x).tdiv (D x) ∧ (0 < N x → (N x - 1).tdiv (D x) < highF N D L) ∧ lowF N D L ≤ 1000000001 ∧ highF N D L ≤ 1000000001 := by
  obtain ⟨a1, -, a3, a4, a5, a6, a7⟩ := quo_facts (hN x).1 (hD x hx) (by omega)
  have b1 := low_le N D L hx
  have b2 := high_ge N D L hx
  have b3 := low_ge N D L (M := 0) (by omega) (fun y hy => (quo_facts (hN y).1 (hD y hy) (by omega)).1)
  have b4 := high_le N D L (M := 1000000001) (by omega) (fun y hy => by
    have h7 := (quo_facts (hN y).1 (hD y hy) (by omega)).2.2.2.2.2.2
    have h8 := hb y
    rcases Int.lt_or_le 1000000001 ((N y + D y - 1).tdiv (D y)) with h | h
    · exfalso
      have : 1000000001 * m ≤ ((N y + D y - 1).tdiv (D y) - 1) * m := Int.mul_le_mul_of_nonneg_right (by omega) (by omega)
      omega
    · exact h)
  have hd0 : 0 ≤ D x := by have := hD x hx; omega
  have c1 := Int.mul_le_mul_of_nonneg_right b1 hd0
  have c2 := Int.mul_le_mul_of_nonneg_right b2 hd0
  refine ⟨?_, by omega, by omega, b1, fun h => by have := a6 h; omega, by omega, b4⟩
  unfold saneB
  simp only [Bool.and_eq_true, decide_eq_true_eq]
  omega
def agreesV (known : Int) (is : Bool) : Bool := if known = 1 then is else if known = 2 then !is else decide (known = 3)
theorem agrees_true (b : FaS → Bool) (L : List FaS) {x : FaS} (hx : x ∈ L) : agreesV (knownV b L) (b x) = true := by
  unfold agreesV knownV
  by_cases h1 : L.all b = true
  · rw [if_pos h1, if_pos rfl]
    exact List.all_eq_true.1 h1 x hx
  · rw [if_neg h1]
    by_cases h2 : L.any b = true
    · rw [if_pos h2]; rfl
    · rw [if_neg h2, if_neg (by decide), if_pos rfl]
      have : b x = false := by
        cases h : b x with
        | false => rfl
        | true => exact absurd (List.any_eq_true.2 ⟨x, hx, h⟩) h2
      rw [this]; rfl
theorem fac_has {s : Sheet} (hs : Ok s) {way : Int} (hw : wayB way = true) (h0 : spE s = 0) {x : FaS} (hx : x ∈ truthsL s) : facE s way = 0 ∧ ofV x.1 way ∈ facR s way := by
  have he : facE s way = 0 := by
    unfold facE
    rw [hw, knE_sp]
    exact h0
  refine ⟨he, ?_⟩
  unfold facR
  rw [if_pos he, facTo_mem]
  exact ⟨of_in hs hx, x, hx, rfl⟩
theorem str_not {s : Sheet} {x : FaS} (hx : x ∈ truthsL s) {q : Int} (hq : q ∈ strTo (rightK s) s.cs.length) : ∃ j : Nat, q = j ∧ j < s.cs.length ∧ fitB x.1 (ctAt s.cs j) = false := by
  obtain ⟨j, h1, h2, h3⟩ := (strTo_mem _ _ _).1 hq
  refine ⟨j, h3, h1, ?_⟩
  have hne : truthsL s ≠ [] := fun e => by rw [e] at hx; cases hx
  have := (known_two _ _ hne).1 h2
  rw [List.any_eq_false] at this
  simpa using this x hx
end Sh

set_option maxHeartbeats 1000000 in
theorem in4_any (v : Value) (xs : List Int) (n : Int) (w : World) (hx : Ints w w.heap.size v xs) (hl : xs.length ≤ 1000000000) :
    Calls Try.prog 118 #[v, .int .i64 n] w fun e w' => e = .returned (.bool (decide (n ∈ xs))) ∧ Below w.heap.size w w' := by
  have hform : ∃ A c, v = .slice A xs.length c := by
    rcases hx with ⟨rfl, rfl⟩ | ⟨b, off, cap, rfl, _⟩
    · exact ⟨none, 0, rfl⟩
    · exact ⟨_, _, rfl⟩
  obtain ⟨A, c, hv⟩ := hform
  have HX := Lib.hid hx
  have hll : (xs.length : Int) ≤ 1000000000 := by omega
  clear hx
  subst hv
  go_enter Try.func118, Try.ntmps118
  go_wp2_with fail
  go_loopw [5] (fun x wr => ∃ k : Nat, (k : Int) ≤ xs.length ∧ x = .int .i64 k ∧ Below w.heap.size w wr ∧ Hid (∀ (i : Nat) (y : Int), i < k → xs[i]? = some y → ¬ y = n)) (fun x _ => xs.length - (intOf x).toNat)
  case atStart => exact ⟨0, by omega, rfl, Below.refl _ _, fun i _ hi => by omega⟩
  case round =>
    obtain ⟨k, hk, rfl, hB, hall⟩ := hrel
    have hkn := Int.natCast_nonneg k
    by_cases hlt : (k : Int) < xs.length
    · have hkx : k < xs.length := by omega
      rcases HX.out with ⟨_, e⟩ | ⟨b, off, cap, e, hb, hc⟩
      · subst e; simp at hkx
      · have hxk : xs[k]? = some xs[k] := List.getElem?_eq_getElem hkx
        have c0 := (hB.cell (p := ⟨b, off + k, none⟩) hb).trans (hc k _ hxk)
        injection e with eA _ ec
        subst eA ec
        have HXK := Lib.hid hxk
        have hw1 : IntKind.i64.wrap ((k : Int) + 1) = (k : Int) + 1 := IntWalk.i64_in _ (by omega)
        clear hc hxk
        generalize xs[k] = x at *
        by_cases hxy : x = n
        · have hxB : (x == n) = true := by simpa using hxy
          have hin : Hid (n ∈ xs) := by rw [← hxy]; exact List.mem_of_getElem? HXK.out
          clear hxy
          go_wp2_with fail
          go_returns
          exact ⟨ret_b (decide_eq_true hin.out).symm, hB⟩
        · have hxB : (x == n) = false := by simpa using hxy
          have HXY := Lib.hid hxy
          clear hxy
          go_wp2_with fail
          go_roundw
          case rel => exact ⟨k + 1, by omega, by go_num, hB, fun i y hi hy => by
            by_cases e : i = k
            · subst e
              rw [HXK.out] at hy
              injection hy with hy
              rw [← hy]
              exact HXY.out
            · exact hall.out i y (by omega) hy⟩
          case measure => simp [intOf]; omega
    · have hno : Hid (¬ n ∈ xs) := fun hin => by
        obtain ⟨i, hi, e⟩ := List.getElem_of_mem hin
        exact hall.out i n (by omega) (by rw [List.getElem?_eq_getElem hi, e]) rfl
      go_wp2_with fail
      go_returns
      exact ⟨ret_b (decide_eq_false hno.out).symm, hB⟩
end Go.Proofs.Ytgpmnkdagpcffaa
