/- The reference's triangles from the first corner. -/
import Derived.Test.YtgpmnkdagpcffaaRefA
import Derived.Test.YtgpmnkdagpcffaaFence
import Derived.Test.YtgpmnkdagpcffaaPairs
import Derived.Test.YtgpmnkdagpcffaaRefChk
namespace Go.Proofs.Ytgpmnkdagpcffaa
open Go.RowKit

abbrev Tri := (Int × Int) × (Int × Int) × (Int × Int)
def enc6 (t : Tri) : List Value := [.int .i64 t.1.1, .int .i64 t.1.2, .int .i64 t.2.1.1, .int .i64 t.2.1.2, .int .i64 t.2.2.1, .int .i64 t.2.2.2]
def flat6 (ts : List Tri) : List Value := ts.flatMap enc6
theorem flat6_len (ts : List Tri) : (flat6 ts).length = ts.length * 6 := by
  induction ts with
  | nil => rfl
  | cons t ts ih => unfold flat6 at *; simp [ih, enc6]; omega
theorem flat6_append (a b : List Tri) : flat6 (a ++ b) = flat6 a ++ flat6 b := by simp [flat6]
theorem flat6_get (ts : List Tri) : ∀ k j, j < 6 → (flat6 ts)[k * 6 + j]? = (ts[k]?).bind fun t => (enc6 t)[j]? := by
  induction ts with
  | nil => intro k j _; simp [flat6]
  | cons t ts ih =>
    intro k j hj
    have e : flat6 (t :: ts) = enc6 t ++ flat6 ts := by simp [flat6]
    have hl : (enc6 t).length = 6 := rfl
    rw [e]
    match k with
    | 0 =>
      rw [List.getElem?_append_left (by rw [hl]; omega)]
      simp
    | k + 1 =>
      rw [List.getElem?_append_right (by rw [hl]; omega), hl, show (k + 1) * 6 + j - 6 = k * 6 + j from by omega, ih k j hj]
      simp
theorem enc6_one (t : Tri) : ∀ u ∈ enc6 t, u.oneCell' = true := by
  intro u hu
  simp [enc6] at hu
  rcases hu with rfl | rfl | rfl | rfl | rfl | rfl <;> rfl
/-- A slice of arrays of three points reads as a list of triples. -/
def Trs (w : World) (B : Nat) (A : Option Addr) (ts : List Tri) : Prop :=
  0 < ts.length → ∃ g, A = some ⟨g, 0, none⟩ ∧ g < B ∧ ∀ (k : Nat) (t : Tri), ts[k]? = some t →
    (w.cell? ⟨g, k * 6, none⟩ = some (.int .i64 t.1.1) ∧ w.cell? ⟨g, k * 6 + 1, none⟩ = some (.int .i64 t.1.2)) ∧
    (w.cell? ⟨g, k * 6 + 2, none⟩ = some (.int .i64 t.2.1.1) ∧ w.cell? ⟨g, k * 6 + 3, none⟩ = some (.int .i64 t.2.1.2)) ∧
    (w.cell? ⟨g, k * 6 + 4, none⟩ = some (.int .i64 t.2.2.1) ∧ w.cell? ⟨g, k * 6 + 5, none⟩ = some (.int .i64 t.2.2.2))
theorem Trs.keep {w w' : World} {B : Nat} {A : Option Addr} {ts : List Tri} (h : Trs w B A ts) (hb : Below B w w') : Trs w' B A ts := fun hn => by
  obtain ⟨g, e, hB, hc⟩ := h hn
  refine ⟨g, e, hB, fun k t ht => ?_⟩
  obtain ⟨⟨a, b⟩, ⟨c, d⟩, i, j⟩ := hc k t ht
  exact ⟨⟨(hb.cell (p := ⟨g, _, none⟩) hB).trans a, (hb.cell (p := ⟨g, _, none⟩) hB).trans b⟩, ⟨(hb.cell (p := ⟨g, _, none⟩) hB).trans c, (hb.cell (p := ⟨g, _, none⟩) hB).trans d⟩, (hb.cell (p := ⟨g, _, none⟩) hB).trans i, (hb.cell (p := ⟨g, _, none⟩) hB).trans j⟩
theorem Trs.of_own {w : World} {base : Nat} {e : TypeId} {A : Option Addr} {c : Nat} {ts : List Tri} (h : w.ownsRow base e 6 (.slice A ts.length c) ts.length (flat6 ts)) : Trs w w.heap.size A ts := fun hn => by
  obtain ⟨g, cap, hv, _, hlt⟩ := h.form hn
  have hA : A = some ⟨g, 0, none⟩ := by injection hv
  subst hA
  refine ⟨g, rfl, hlt, fun k t ht => ?_⟩
  have hc := h.cells (g := g) rfl
  have hadd : ∀ j, (⟨g, 0, none⟩ : Addr).add j = ⟨g, j, none⟩ := fun j => by
    unfold Addr.add
    by_cases h0 : j = 0 <;> simp [h0]
  have hg : ∀ j u, j < 6 → (enc6 t)[j]? = some u → w.cell? ⟨g, k * 6 + j, none⟩ = some u := fun j u hj hu => by
    have := hc (k * 6 + j) u (by rw [flat6_get ts k j hj, ht]; exact hu)
    rwa [hadd] at this
  exact ⟨⟨hg 0 _ (by omega) rfl, hg 1 _ (by omega) rfl⟩, ⟨hg 2 _ (by omega) rfl, hg 3 _ (by omega) rfl⟩, hg 4 _ (by omega) rfl, hg 5 _ (by omega) rfl⟩

section
variable {F : Fence} {n : Nat} {P : Program} (w : World)
theorem wpIn_append_any {o : Oper} {a : Act} {K : Act → World → Prop} {Q : Exit → Act → World → Prop} (hsem : ∀ ρ, o.semAt F.round ρ = execOp ρ o) (s x : Operand) (t : TypeId)
    (ho : o.op = .call { callee := .builtin .append, args := #[s, x], argTypes := #[t, t] })
    (base : Nat) (e : TypeId) (i : TypeInfo) (z : Value) (size bytes : Nat) (ht : P.underlying t = some (.slice e)) (hi : P.info? e = some i) (hz : i.zero = some z)
    (hsize : i.size = size) (hby : i.bytes = bytes) (hzs : z.cells.size = size) (hsz : 0 < size)
    (v : Value) (m0 : Nat) (xs : List Value) (hs : a.eval s = v) (hown : w.ownsRow base e size v m0 xs)
    (B : Nat) (A : Option Addr) (m c : Nat) (news : List Value) (hx : a.eval x = .slice A m c) (hr : Reads w B size A m news) (h1 : ∀ u ∈ news, u.oneCell' = true)
    (h63 : m0 + m ≤ maxLen) (hbytes : (m0 + m) * bytes ≤ 140737488355328) (hbase : base ≤ w.heap.size)
    (h : ∀ v' w', w'.ownsRow base e size v' (m0 + m) (xs ++ news) → w.grownBy w' v.ownBlock → (v'.ownBlock = v.ownBlock ∨ v'.ownBlock = some w.heap.size) → K (a.put o.dst v') w') : o.wpIn F n P a w K Q := by
  obtain ⟨v', w', hrun, h2, h3, h4⟩ := run_append_any (P := P) w base t o.type e i z size bytes ht hi hz hsize hby hzs hsz v m0 xs hown B A m c news hr h1 h63 hbytes hbase
  unfold Oper.wpIn
  refine ⟨fun f hf => ?_, ?_⟩
  · unfold Oper.about at hf
    rw [ho] at hf
    simp [resolve, Sem.run_pure] at hf
    cases hf
  · rw [hsem]
    unfold execOp
    simp only [ho, resolve, invoke, builtin, Sem.run_bind, Sem.run_pure, Result.andThen_ok, List.map_toArray, List.map_cons, List.map_nil, hs, hx, hrun]
    exact h v' w' h2 h3 h4
end

theorem infoTri : (Try.prog.info? 113).map (fun i => (i.zero, i.size, i.bytes)) = some (some (.agg #[.int .i64 0, .int .i64 0, .int .i64 0, .int .i64 0, .int .i64 0, .int .i64 0]), 6, 48) := by kernel_rfl
def triAt (ps : List (Int × Int)) (k : Nat) : Tri := (Geo.ptAt ps 0, Geo.ptAt ps (k + 1), Geo.ptAt ps (k + 2))
def fanTo (ps : List (Int × Int)) (k : Nat) : List Tri := (List.range k).map (triAt ps)
theorem fanTo_len (ps : List (Int × Int)) (k : Nat) : (fanTo ps k).length = k := by unfold fanTo; simp
theorem fanTo_succ (ps : List (Int × Int)) (k : Nat) : fanTo ps (k + 1) = fanTo ps k ++ [triAt ps k] := by
  unfold fanTo
  rw [List.range_succ, List.map_append]
  rfl
theorem fanTo_get {ps : List (Int × Int)} {n k : Nat} (h : k < n) : (fanTo ps n)[k]? = some (triAt ps k) := by
  unfold fanTo
  simp [h]
theorem flat6_tri (ps : List (Int × Int)) (k : Nat) : flat6 (fanTo ps (k + 1)) = flat6 (fanTo ps k) ++ enc6 (triAt ps k) := by
  rw [fanTo_succ, flat6_append]
  simp [flat6]
def FanPost (ps : List (Int × Int)) (w : World) (e : Ending) (w' : World) : Prop := ∃ A c, e = .returned (.slice A (ps.length - 2) c) ∧ Trs w' w'.heap.size A (fanTo ps (ps.length - 2)) ∧ Below w.heap.size w w'

set_option maxRecDepth 100000 in
set_option maxHeartbeats 4000000 in
theorem Fan_any (A : Option Addr) (c : Nat) (ps : List (Int × Int)) (hl : ps.length ≤ 100) (h2 : 2 ≤ ps.length) (w : World) (hP : Prs w w.heap.size A ps) :
    Calls Try.prog 85 #[.slice A ps.length c] w (FanPost ps w) := by
  obtain ⟨b, off, rfl, hb, hc⟩ := hP (by omega)
  have HC : Hid (∀ W, Below w.heap.size w W → ∀ k, k < ps.length → W.cell? ⟨b, off + k * 2, none⟩ = some (.int .i64 (Geo.ptAt ps k).1) ∧ W.cell? ⟨b, off + k * 2 + 1, none⟩ = some (.int .i64 (Geo.ptAt ps k).2)) := fun W hW k hk => by
    have hg : ps[k]? = some ps[k] := List.getElem?_eq_getElem hk
    have := hc k _ hg
    rw [Geo.ptAt_eq hg]
    exact ⟨(hW.cell (p := ⟨b, off + k * 2, none⟩) hb).trans this.1, (hW.cell (p := ⟨b, off + k * 2 + 1, none⟩) hb).trans this.2⟩
  have hbb := hb
  clear hc hP hb
  have hll : (ps.length : Int) ≤ 100 := by omega
  have hl2 : (2 : Int) ≤ ps.length := by omega
  obtain ⟨i0, hi0, hz0, hz1, hz2⟩ := info_parts infoTri
  go_enter Try.func85, Try.ntmps85
  go_wp2_with fail
  go_loopw [3, 4] (fun v x wr => ∃ k : Nat, (k : Int) + 2 ≤ ps.length ∧ x = .int .i64 ((k : Int) + 1) ∧ wr.ownsRow w.heap.size 113 6 v k (flat6 (fanTo ps k)) ∧ Below w.heap.size w wr) (fun _ x _ => (ps.length - intOf x).toNat)
  case atStart => exact ⟨0, by omega, rfl, World.ownsRow_nil _ _ _ _, Below.refl _ _⟩
  case round =>
    obtain ⟨k, hk, rfl, hown, hB⟩ := hrel
    have hk0 := Int.natCast_nonneg k
    by_cases hlt : (k : Int) + 1 + 1 < ps.length
    · have c1 := HC.out _ hB 0 (by omega)
      have c2 := HC.out _ hB (k + 1) (by omega)
      have c3 := HC.out _ hB (k + 2) (by omega)
      rw [Nat.zero_mul, Nat.add_zero] at c1
      obtain ⟨a0, a1⟩ := c1
      obtain ⟨a2, a3⟩ := c2
      obtain ⟨a4, a5⟩ := c3
      have HTR : Hid (triAt ps k = (Geo.ptAt ps 0, Geo.ptAt ps (k + 1), Geo.ptAt ps (k + 2))) := rfl
      have HFL := Lib.hid (flat6_tri ps k)
      generalize triAt ps k = tr at *
      generalize Geo.ptAt ps 0 = p0 at *
      generalize Geo.ptAt ps (k + 1) = p1 at *
      generalize Geo.ptAt ps (k + 2) = p2 at *
      obtain ⟨x0, y0⟩ := p0
      obtain ⟨x1, y1⟩ := p1
      obtain ⟨x2, y2⟩ := p2
      dsimp only at a0 a1 a2 a3 a4 a5
      have HOWN := Lib.hid hown
      have hi00 : (0 : Int) < ps.length := by omega
      have hn0 : 0 < ps.length := by omega
      have hi1 : (k : Int) + 1 < ps.length := by omega
      have hn1 : k + 1 < ps.length := by omega
      have hn2 : k + 2 < ps.length := by omega
      have hn3 : k + 1 + 1 < ps.length := by omega
      have hw1 : IntKind.i64.wrap ((k : Int) + 1) = (k : Int) + 1 := IntWalk.i64_in _ (by omega)
      have hw2 : IntKind.i64.wrap ((k : Int) + 1 + 1) = (k : Int) + 1 + 1 := IntWalk.i64_in _ (by omega)
      clear hown
      go_wp2_with fail
      refine (wpIn_wide (n := 4)).1 ?_
      have hmo : Try.prog.follows .mixedOrders = true := by kernel_rfl
      have hbw : b < wr.heap.size := by have := hB.size; have := hbb; omega
      have q0 : Below wr.heap.size wr wr.drew := (Below.refl _ _).drew
      have KC : Hid (∀ W', Below wr.heap.size wr W' → (W'.cell? ⟨b, off, none⟩ = some (.int .i64 x0) ∧ W'.cell? ⟨b, off + 1, none⟩ = some (.int .i64 y0)) ∧ (W'.cell? ⟨b, off + (k + 1) * 2, none⟩ = some (.int .i64 x1) ∧ W'.cell? ⟨b, off + (k + 1) * 2 + 1, none⟩ = some (.int .i64 y1)) ∧ (W'.cell? ⟨b, off + (k + 2) * 2, none⟩ = some (.int .i64 x2) ∧ W'.cell? ⟨b, off + (k + 2) * 2 + 1, none⟩ = some (.int .i64 y2))) :=
        fun W' h => ⟨⟨(h.cell (p := ⟨b, _, none⟩) hbw).trans a0, (h.cell (p := ⟨b, _, none⟩) hbw).trans a1⟩, ⟨(h.cell (p := ⟨b, _, none⟩) hbw).trans a2, (h.cell (p := ⟨b, _, none⟩) hbw).trans a3⟩, (h.cell (p := ⟨b, _, none⟩) hbw).trans a4, (h.cell (p := ⟨b, _, none⟩) hbw).trans a5⟩
      clear a0 a1 a2 a3 a4 a5
      have g1 : (0 : Int) ≤ (k : Int) + 1 := by omega
      have g2 : (0 : Int) ≤ (k : Int) + 1 + 1 := by omega
      have g3 : ((k : Int) + 1 + 1).toNat = k + 2 := by omega
      refine wpIn_region_held (fun W' => Below wr.heap.size wr W') 15 hmo ?_
      refine wpHeldIn_take (i := 0) (v := ?_) (plain_of (by kernel_rfl)) rfl (by kernel_rfl) (fun _ _ _ h => h) (yieldsSoIn_of (by kernel_rfl) ?_ (fun _ => rfl)) q0 ?_; rotate_left; focus (intro wq hw; clear hw; go_simp; try (with_reducible rfl))
      refine wpHeldIn_take (i := 1) (v := ?_) (plain_of (by kernel_rfl)) rfl (by kernel_rfl) (fun _ _ _ h => h) (yieldsSoIn_of (by kernel_rfl) ?_ (fun _ => rfl)) q0 ?_; rotate_left; focus (intro wq hw; clear hw; go_simp; try (with_reducible rfl))
      refine wpHeldIn_take (i := 2) (v := ?_) (plain_of (by kernel_rfl)) rfl (by kernel_rfl) (fun _ _ _ h => h) (yieldsSoIn_of (by kernel_rfl) ?_ (fun _ => rfl)) q0 ?_; rotate_left; focus (intro wq hw; clear hw; go_simp; try (with_reducible rfl))
      refine wpHeldIn_take (i := 3) (v := ?_) (plain_of (by kernel_rfl)) rfl (by kernel_rfl) (fun _ _ _ h => h) (yieldsSoIn_of (by kernel_rfl) ?_ (fun _ => rfl)) q0 ?_; rotate_left; focus (intro wq hw; have kq := KC.out wq hw; clear hw; go_simp; try (with_reducible rfl))
      refine wpHeldIn_take (i := 4) (v := ?_) (plain_of (by kernel_rfl)) rfl (by kernel_rfl) (fun _ _ _ h => h) (yieldsSoIn_of (by kernel_rfl) ?_ (fun _ => rfl)) q0 ?_; rotate_left; focus (intro wq hw; clear hw; go_simp; try (with_reducible rfl))
      refine wpHeldIn_take (i := 5) (v := ?_) (plain_of (by kernel_rfl)) rfl (by kernel_rfl) (fun _ _ _ h => h) (yieldsSoIn_of (by kernel_rfl) ?_ (fun _ => rfl)) q0 ?_; rotate_left; focus (intro wq hw; clear hw; go_simp; try (with_reducible rfl))
      refine wpHeldIn_take (i := 6) (v := ?_) (plain_of (by kernel_rfl)) rfl (by kernel_rfl) (fun _ _ _ h => h) (yieldsSoIn_of (by kernel_rfl) ?_ (fun _ => rfl)) q0 ?_; rotate_left; focus (intro wq hw; clear hw; go_simp; try (with_reducible rfl))
      refine wpHeldIn_take (i := 7) (v := ?_) (plain_of (by kernel_rfl)) rfl (by kernel_rfl) (fun _ _ _ h => h) (yieldsSoIn_of (by kernel_rfl) ?_ (fun _ => rfl)) q0 ?_; rotate_left; focus (intro wq hw; have kq := KC.out wq hw; clear hw; go_simp; try (with_reducible rfl))
      refine wpHeldIn_take (i := 8) (v := ?_) (plain_of (by kernel_rfl)) rfl (by kernel_rfl) (fun _ _ _ h => h) (yieldsSoIn_of (by kernel_rfl) ?_ (fun _ => rfl)) q0 ?_; rotate_left; focus (intro wq hw; clear hw; go_simp; try (with_reducible rfl))
      refine wpHeldIn_take (i := 9) (v := ?_) (plain_of (by kernel_rfl)) rfl (by kernel_rfl) (fun _ _ _ h => h) (yieldsSoIn_of (by kernel_rfl) ?_ (fun _ => rfl)) q0 ?_; rotate_left; focus (intro wq hw; clear hw; go_simp; try (with_reducible rfl))
      refine wpHeldIn_take (i := 10) (v := ?_) (plain_of (by kernel_rfl)) rfl (by kernel_rfl) (fun _ _ _ h => h) (yieldsSoIn_of (by kernel_rfl) ?_ (fun _ => rfl)) q0 ?_; rotate_left; focus (intro wq hw; clear hw; go_simp; try (with_reducible rfl))
      refine wpHeldIn_take (i := 11) (v := ?_) (plain_of (by kernel_rfl)) rfl (by kernel_rfl) (fun _ _ _ h => h) (yieldsSoIn_of (by kernel_rfl) ?_ (fun _ => rfl)) q0 ?_; rotate_left; focus (intro wq hw; clear hw; go_simp; try (with_reducible rfl))
      refine wpHeldIn_take (i := 12) (v := ?_) (plain_of (by kernel_rfl)) rfl (by kernel_rfl) (fun _ _ _ h => h) (yieldsSoIn_of (by kernel_rfl) ?_ (fun _ => rfl)) q0 ?_; rotate_left; focus (intro wq hw; have kq := KC.out wq hw; clear hw; go_simp; try (with_reducible rfl))
      refine wpHeldIn_take (i := 13) (v := ?_) (plain_of (by kernel_rfl)) rfl (by kernel_rfl) (fun _ _ _ h => h) (yieldsSoIn_of (by kernel_rfl) ?_ (fun _ => rfl)) q0 ?_; rotate_left; focus (intro wq hw; clear hw; go_simp; try (with_reducible rfl))
      refine wpHeldIn_one (i := 14) (by kernel_rfl) (by kernel_rfl) rfl (by kernel_rfl) (fun K' hK' => ?_)
      go_simp
      refine hK' _ _ (by (repeat' (first | (with_reducible exact Below.refl _ _) | (with_reducible assumption) | (with_reducible refine Below.alloc ?_ ?_ _) | (with_reducible refine Below.drew ?_) | (with_reducible refine Below.setCell ?_ ?_ _) | go_size | (exact (by simp)) | omega))) ?_
      refine wpHeldIn_last (by kernel_rfl) rfl (by kernel_rfl) (fun K2 hK2 => ?_)
      have HR : Reads ((wr.alloc (.cells #[.int .i64 x0, .int .i64 y0, .int .i64 x1, .int .i64 y1, .int .i64 x2, .int .i64 y2] 113)).drew) (wr.heap.size + 1) 6 (some ⟨wr.heap.size, 0, none⟩) 1 (enc6 tr) := by
        rw [HTR.out]
        refine ⟨rfl, fun _ => ⟨_, rfl, by simp, fun j u hu => ?_⟩⟩
        have hb := BoxS.drew (BoxS.new wr 113 #[.int .i64 x0, .int .i64 y0, .int .i64 x1, .int .i64 y1, .int .i64 x2, .int .i64 y2])
        have hadd : (⟨wr.heap.size, 0, none⟩ : Addr).add j = ⟨wr.heap.size, j, none⟩ := by
          unfold Addr.add
          by_cases h0 : j = 0 <;> simp [h0]
        rw [hadd]
        refine hb.cell j ?_
        rw [← hu]
        simp [enc6]
      have hown1 : ((wr.alloc (.cells #[.int .i64 x0, .int .i64 y0, .int .i64 x1, .int .i64 y1, .int .i64 x2, .int .i64 y2] 113)).drew).ownsRow w.heap.size 113 6 _ k (flat6 (fanTo ps k)) := HOWN.out.alloc _
      have hB1 : Below w.heap.size w ((wr.alloc (.cells #[.int .i64 x0, .int .i64 y0, .int .i64 x1, .int .i64 y1, .int .i64 x2, .int .i64 y2] 113)).drew) := (hB.alloc hB.size _).drew
      refine wpIn_append_any _ (fun _ => rfl) (.tmp 12) (.tmp 26) 110 rfl w.heap.size 113 i0 _ 6 48 Try.underlying110 hi0 hz0 hz1 hz2 rfl (by decide) _ k (flat6 (fanTo ps k)) rfl hown1 (wr.heap.size + 1) (some ⟨wr.heap.size, 0, none⟩) 1 1 (enc6 tr) rfl HR (enc6_one tr) (by unfold maxLen; omega) (by omega) (by have := hB1.size; exact this) ?_
      intro v' w' hown2 hgrow _
      have hB2 : Below w.heap.size w w' := hB1.grown hgrow hB1.size (fun j hj => by
        rcases hown1.2 with ⟨rfl, _⟩ | ⟨g, cap, cur, rfl, hbg, _⟩
        · cases hj
        · cases hj; exact hbg)
      rw [← HFL.out] at hown2
      have HOWN2 := Lib.hid hown2
      clear hown2 hgrow hown1 HR hB1
      refine hK2 _ _ ?_
      refine wpHeldIn_take (i := 16) (v := ?_) (plain_of (by kernel_rfl)) rfl (by kernel_rfl) (fun _ _ _ h => h) (yieldsSoIn_of (by kernel_rfl) ?_ (fun _ => rfl)) trivial ?_; rotate_left; focus (intro w _; go_simp; try (with_reducible rfl))
      refine wpHeldIn_done (by kernel_rfl) ?_ _
      go_wp2_with fail
      go_roundw
      case rel => exact ⟨k + 1, by omega, by go_num, HOWN2.out, hB2⟩
      case measure => simp [intOf]; omega
    · obtain rfl : k = ps.length - 2 := by omega
      obtain ⟨A2, c2, hv⟩ : ∃ A2 c2, u3 = Value.slice A2 (ps.length - 2) c2 := by
        rcases hown.2 with ⟨rfl, h0⟩ | ⟨g, cap, cur, rfl, _⟩
        · exact ⟨none, 0, by rw [h0]⟩
        · exact ⟨_, _, rfl⟩
      subst hv
      have hT : Hid (Trs wr wr.heap.size A2 (fanTo ps (ps.length - 2))) := Trs.of_own (base := w.heap.size) (e := 113) (c := c2) (by rw [fanTo_len]; exact hown)
      clear hown
      go_wp2_with fail
      go_returns
      exact ⟨A2, c2, rfl, hT.out, hB⟩
end Go.Proofs.Ytgpmnkdagpcffaa
