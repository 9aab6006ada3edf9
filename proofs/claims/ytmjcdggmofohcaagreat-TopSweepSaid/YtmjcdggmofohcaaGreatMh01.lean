/- Texts of this proof, one behind the other: Base, Pairs, Geo. Each says its own conditions. -/
import Derived.Test.YtmjcdggmofohcaaGreatChecked
import Derived.WalkKit
import Derived.WalkSpells
import Derived.WalkLawsBesides
import Derived.Lib.Hide
import Derived.BigQuiet
import Derived.Deep.QuietTactic
import Derived.Below
import Derived.RegionTactic
import Derived.BigRegion
import Derived.Laws.ResultCell
import Derived.Handy
import Derived.Laws.OwnMore
import Derived.Deep.AppendLies
import Derived.Deep.Draws
import Derived.Maps.AppendAt
import Derived.OwnWalk
import Derived.Deep.SlicePairs
import Derived.WideShapes
import Derived.OpenShut
import Derived.Lib.SmallJoins
import Derived.Deep.RegionHeld3
namespace Go.Proofs.YtmjcdggmofohcaaGreat
open Go.RowKit
theorem ret_i {k : IntKind} {a b : Int} (h : a = b) : Ending.returned (.int k a) = .returned (.int k b) := by rw [h]
theorem ret_b {a b : Bool} (h : a = b) : Ending.returned (.bool a) = .returned (.bool b) := by rw [h]
theorem below_drewN {B : Nat} {a w : World} (h : Below B a w) (n : Nat) : Below B a (w.drewN n) := ⟨h.os, h.tape, h.output, h.size, h.block⟩
theorem bcell {W w1 : World} (hb : Below W.heap.size W w1) : (∀ b o, b < W.heap.size → w1.cell? ⟨b, o, none⟩ = W.cell? ⟨b, o, none⟩) ∧ (∀ b o, b < W.heap.size → w1.frozen? ⟨b, o, none⟩ = W.frozen? ⟨b, o, none⟩) :=
  ⟨fun b o h => hb.cell (p := ⟨b, o, none⟩) h, fun b o h => hb.frozen (p := ⟨b, o, none⟩) h⟩
theorem cs_same {w : World} {a : Addr} {u v : Value} (h : w.cell? a = some u) : (w.setCell a v).cell? a = some v := World.cell?_setCell_same _ _ _ h
theorem cs_other {w : World} {a b : Addr} {u v : Value} (h : a ≠ b) (hu : w.cell? b = some u) : (w.setCell a v).cell? b = some u := (World.cell?_setCell_other _ _ _ _ h).trans hu
def inB (n l h : Int) : Bool := decide (l ≤ n) && decide (n ≤ h)
theorem inB_true {n l h : Int} : inB n l h = true ↔ l ≤ n ∧ n ≤ h := by unfold inB; simp
theorem inB_false {n l h : Int} : inB n l h = false ↔ ¬ (l ≤ n ∧ n ≤ h) := by unfold inB; simp
theorem mul_bd {a b x y : Int} (h0 : -x ≤ a) (h1 : a ≤ x) (h2 : -y ≤ b) (h3 : b ≤ y) : -(x * y) ≤ a * b ∧ a * b ≤ x * y := by
  have hx : 0 ≤ x := by omega
  have hy : 0 ≤ y := by omega
  have h : a.natAbs * b.natAbs ≤ x.natAbs * y.natAbs := Nat.mul_le_mul (by omega) (by omega)
  rw [← Int.natAbs_mul, ← Int.natAbs_mul] at h
  have e : ((x * y).natAbs : Int) = x * y := Int.natAbs_of_nonneg (Int.mul_nonneg hx hy)
  omega
end Go.Proofs.YtmjcdggmofohcaaGreat
namespace Go.Proofs.YtmjcdggmofohcaaGreat
open Go.RowKit
theorem block_of_add (a : Addr) (n : Nat) : (a.add n).block = a.block := by unfold Addr.add; split <;> rfl
theorem add_of_add (a : Addr) (i j : Nat) : (a.add i).add j = a.add (i + j) := by
  unfold Addr.add
  by_cases hi : i = 0 <;> by_cases hj : j = 0 <;> simp [hi, hj, Nat.add_assoc]

def Reads (w : World) (B size : Nat) (A : Option Addr) (n : Nat) (xs : List Value) : Prop :=
  xs.length = n * size ∧ (0 < n → ∃ ad, A = some ad ∧ ad.block < B ∧ ∀ j u, xs[j]? = some u → w.cell? (ad.add j) = some u)
theorem Reads.of_own {w : World} {size n : Nat} {A : Option Addr} {xs : List Value} {base : Nat} {e : TypeId} {c : Nat} (h : w.ownsRow base e size (.slice A n c) n xs) : Reads w w.heap.size size A n xs := by
  refine ⟨h.1, fun hn => ?_⟩
  obtain ⟨g, cap, hv, _, hlt⟩ := h.form hn
  have hA : A = some ⟨g, 0, none⟩ := by injection hv
  subst hA
  exact ⟨_, rfl, hlt, h.cells (g := g) rfl⟩

section
variable {P : Program} (w : World)
theorem run_append_of_nil (base : Nat) (t ty e : TypeId) (i : TypeInfo) (size : Nat) (ht : P.underlying t = some (.slice e)) (hi : P.info? e = some i)
    (v : Value) (n : Nat) (xs : List Value) (hown : w.ownsRow base e size v n xs) (c : Nat) : (Builtin.append_ #[t, t] ty #[v, .slice none 0 c]).run P w = .ok v w := by
  rcases hown.2 with ⟨rfl, rfl⟩ | ⟨g, cap, cur, rfl, _, _, hnc, _⟩
  · simp [Builtin.append_, run_underlying ht, sizeOf, typeInfo, hi, Builtin.lenOf, Builtin.firstCells]
  · simp [Builtin.append_, run_underlying ht, sizeOf, typeInfo, hi, Builtin.lenOf, Builtin.firstCells, hnc, storeCells]
theorem run_append_any (base : Nat) (t ty e : TypeId) (i : TypeInfo) (z : Value) (size bytes : Nat) (ht : P.underlying t = some (.slice e)) (hi : P.info? e = some i) (hz : i.zero = some z)
    (hsize : i.size = size) (hby : i.bytes = bytes) (hzs : z.cells.size = size) (hsz : 0 < size)
    (v : Value) (n : Nat) (xs : List Value) (hown : w.ownsRow base e size v n xs)
    (B : Nat) (A : Option Addr) (m c : Nat) (news : List Value) (hr : Reads w B size A m news) (h1 : ∀ u ∈ news, u.oneCell' = true)
    (h63 : n + m ≤ maxLen) (hbytes : (n + m) * bytes ≤ 140737488355328) (hbase : base ≤ w.heap.size) :
    ∃ v' w', (Builtin.append_ #[t, t] ty #[v, .slice A m c]).run P w = .ok v' w' ∧ w'.ownsRow base e size v' (n + m) (xs ++ news) ∧ w.grownBy w' v.ownBlock ∧
      (v'.ownBlock = v.ownBlock ∨ v'.ownBlock = some w.heap.size) := by
  rcases A with _ | ad
  · have hm : m = 0 := by
      rcases Nat.eq_zero_or_pos m with h0 | h0
      · exact h0
      · obtain ⟨ad, h, _⟩ := hr.2 h0
        cases h
    subst hm
    have hn : news = [] := List.eq_nil_of_length_eq_zero (by simpa using hr.1)
    subst hn
    exact ⟨v, w, run_append_of_nil w base t ty e i size ht hi v n xs hown c, by simpa using hown, World.grownBy.refl w _, .inl rfl⟩
  · have hcells : ∀ j u, news[j]? = some u → w.cell? (ad.add j) = some u := by
      intro j u hu
      rcases Nat.eq_zero_or_pos m with h0 | h0
      · subst h0
        have hn : news = [] := List.eq_nil_of_length_eq_zero (by simpa using hr.1)
        subst hn
        simp at hu
      · obtain ⟨ad', h, _, hc⟩ := hr.2 h0
        injection h with h
        subst h
        exact hc j u hu
    obtain ⟨v', w', hrun, h2, h3, _, h5⟩ := run_append_own_at (P := P) w base t ty e i z size bytes ht hi hz hsize hby hzs hsz v n xs hown ad m c news hr.1 hcells h1 h63 hbytes hbase
    exact ⟨v', w', hrun, h2, h3, h5⟩
theorem wp_append_any {o : Oper} {a : Act} {K : Act → World → Prop} {Q : Exit → Act → World → Prop} (s x : Operand) (t : TypeId)
    (ho : o.op = .call { callee := .builtin .append, args := #[s, x], argTypes := #[t, t] })
    (base : Nat) (e : TypeId) (i : TypeInfo) (z : Value) (size bytes : Nat) (ht : P.underlying t = some (.slice e)) (hi : P.info? e = some i) (hz : i.zero = some z)
    (hsize : i.size = size) (hby : i.bytes = bytes) (hzs : z.cells.size = size) (hsz : 0 < size)
    (v : Value) (n : Nat) (xs : List Value) (hs : a.eval s = v) (hown : w.ownsRow base e size v n xs)
    (B : Nat) (A : Option Addr) (m c : Nat) (news : List Value) (hx : a.eval x = .slice A m c) (hr : Reads w B size A m news) (h1 : ∀ u ∈ news, u.oneCell' = true)
    (h63 : n + m ≤ maxLen) (hbytes : (n + m) * bytes ≤ 140737488355328) (hbase : base ≤ w.heap.size)
    (h : ∀ v' w', w'.ownsRow base e size v' (n + m) (xs ++ news) → w.grownBy w' v.ownBlock → (v'.ownBlock = v.ownBlock ∨ v'.ownBlock = some w.heap.size) → K (a.put o.dst v') w') : o.wp P a w K Q := by
  obtain ⟨v', w', hrun, h2, h3, h4⟩ := run_append_any (P := P) w base t o.type e i z size bytes ht hi hz hsize hby hzs hsz v n xs hown B A m c news hr h1 h63 hbytes hbase
  unfold Oper.wp execOp
  simp only [ho, resolve, invoke, builtin, Sem.run_bind, Sem.run_pure, Result.andThen_ok, List.map_toArray, List.map_cons, List.map_nil, hs, hx, hrun]
  exact h v' w' h2 h3 h4
theorem wpList_append_any {ops : Array Oper} {rest : List Oper} {o : Oper} {a : Act} {Q : Exit → Act → World → Prop} (hgd : o.guard = none) (s x : Operand) (t : TypeId)
    (ho : o.op = .call { callee := .builtin .append, args := #[s, x], argTypes := #[t, t] })
    (base : Nat) (e : TypeId) (i : TypeInfo) (z : Value) (size bytes : Nat) (ht : P.underlying t = some (.slice e)) (hi : P.info? e = some i) (hz : i.zero = some z)
    (hsize : i.size = size) (hby : i.bytes = bytes) (hzs : z.cells.size = size) (hsz : 0 < size)
    (v : Value) (n : Nat) (xs : List Value) (hs : a.eval s = v) (hown : w.ownsRow base e size v n xs)
    (B : Nat) (A : Option Addr) (m c : Nat) (news : List Value) (hx : a.eval x = .slice A m c) (hr : Reads w B size A m news) (h1 : ∀ u ∈ news, u.oneCell' = true)
    (h63 : n + m ≤ maxLen) (hbytes : (n + m) * bytes ≤ 140737488355328) (hbase : base ≤ w.heap.size)
    (h : ∀ v' w', w'.ownsRow base e size v' (n + m) (xs ++ news) → w.grownBy w' v.ownBlock → (v'.ownBlock = v.ownBlock ∨ v'.ownBlock = some w.heap.size) → wpList P ops Q rest (a.put o.dst v') w') : wpList P ops Q (o :: rest) a w :=
  wpList_plain hgd fun _ hK => wp_append_any w s x t ho base e i z size bytes ht hi hz hsize hby hzs hsz v n xs hs hown B A m c news hx hr h1 h63 hbytes hbase fun v' w' h2 h3 h4 => hK _ _ (h v' w' h2 h3 h4)
end

/-- A slice of structs of two numbers reads as a list of pairs. -/
def Prs (w : World) (B : Nat) (A : Option Addr) (gs : List (Int × Int)) : Prop :=
  0 < gs.length → ∃ b off, A = some ⟨b, off, none⟩ ∧ b < B ∧ ∀ (k : Nat) (g : Int × Int), gs[k]? = some g → w.cell? ⟨b, off + k * 2, none⟩ = some (.int .i64 g.1) ∧ w.cell? ⟨b, off + k * 2 + 1, none⟩ = some (.int .i64 g.2)
theorem Prs.keep {w w' : World} {B : Nat} {A : Option Addr} {gs : List (Int × Int)} (h : Prs w B A gs) (hb : Below B w w') : Prs w' B A gs := fun hn => by
  obtain ⟨b, off, e, hB, hc⟩ := h hn
  exact ⟨b, off, e, hB, fun k g hg => ⟨(hb.cell (p := ⟨b, _, none⟩) hB).trans (hc k g hg).1, (hb.cell (p := ⟨b, _, none⟩) hB).trans (hc k g hg).2⟩⟩
theorem prs_keep {w w' : World} {A : Option Addr} {gs : List (Int × Int)} (h : Prs w w.heap.size A gs) (hb : Below w.heap.size w w') : Prs w' w'.heap.size A gs := fun hn => by
  obtain ⟨b, off, e, hB, hc⟩ := h.keep hb hn
  exact ⟨b, off, e, by have := hb.size; omega, hc⟩
/-- The cells of a list of pairs, one behind the other. -/
def flat (gs : List (Int × Int)) : List Value := gs.flatMap fun g => [.int .i64 g.1, .int .i64 g.2]
theorem flat_len (gs : List (Int × Int)) : (flat gs).length = gs.length * 2 := by
  induction gs with
  | nil => rfl
  | cons g gs ih => unfold flat at *; simp [ih]; omega
theorem flat_get (gs : List (Int × Int)) : ∀ k, (flat gs)[k * 2]? = (gs[k]?).map (fun g => Value.int .i64 g.1) ∧ (flat gs)[k * 2 + 1]? = (gs[k]?).map (fun g => Value.int .i64 g.2) := by
  induction gs with
  | nil => intro k; simp [flat]
  | cons g gs ih =>
    intro k
    match k with
    | 0 => simp [flat]
    | k + 1 =>
      have e : flat (g :: gs) = .int .i64 g.1 :: .int .i64 g.2 :: flat gs := by simp [flat]
      rw [e, show (k + 1) * 2 = k * 2 + 2 from by omega]
      exact ih k
theorem flat_append (a b : List (Int × Int)) : flat (a ++ b) = flat a ++ flat b := by simp [flat]
theorem flat_one (gs : List (Int × Int)) : ∀ u ∈ flat gs, u.oneCell' = true := by
  intro u hu
  unfold flat at hu
  simp at hu
  obtain ⟨a, b, _, h | h⟩ := hu <;> subst h <;> rfl
theorem Prs.reads {w : World} {B : Nat} {A : Option Addr} {gs : List (Int × Int)} (h : Prs w B A gs) : Reads w B 2 A gs.length (flat gs) := by
  refine ⟨flat_len gs, fun hn => ?_⟩
  obtain ⟨b, off, e, hB, hc⟩ := h hn
  refine ⟨_, e, hB, fun j u hu => ?_⟩
  have hadd : ∀ j, (⟨b, off, none⟩ : Addr).add j = ⟨b, off + j, none⟩ := fun j => by
    unfold Addr.add
    by_cases h0 : j = 0 <;> simp [h0]
  rw [hadd]
  have hg := flat_get gs (j / 2)
  rcases (by omega : j = j / 2 * 2 ∨ j = j / 2 * 2 + 1) with hj | hj
  · rw [hj] at hu
    rw [hg.1] at hu
    simp only [Option.map_eq_some_iff] at hu
    obtain ⟨g, hg1, rfl⟩ := hu
    have := (hc _ g hg1).1
    rw [hj]
    exact this
  · rw [hj] at hu
    rw [hg.2] at hu
    simp only [Option.map_eq_some_iff] at hu
    obtain ⟨g, hg1, rfl⟩ := hu
    have := (hc _ g hg1).2
    rw [hj]
    exact this
theorem Prs.of_reads {w : World} {B : Nat} {A : Option Addr} {gs : List (Int × Int)} (h : Reads w B 2 A gs.length (flat gs)) : Prs w B A gs := fun hn => by
  obtain ⟨ad, e, hB, hc⟩ := h.2 hn
  have h0 := hc 0 _ ((flat_get gs 0).1.trans (by rw [List.getElem?_eq_getElem hn]; rfl))
  have hs := World.cell?_spot h0
  obtain ⟨b, off, spot⟩ := ad
  have hs' : spot = none := by simpa [Addr.add] using hs
  subst hs'
  have hadd : ∀ j, (⟨b, off, none⟩ : Addr).add j = ⟨b, off + j, none⟩ := fun j => by
    unfold Addr.add
    by_cases h0 : j = 0 <;> simp [h0]
  refine ⟨b, off, e, hB, fun k g hg => ?_⟩
  have hk := flat_get gs k
  rw [hg] at hk
  have c0 := hc _ _ hk.1
  have c1 := hc _ _ hk.2
  rw [hadd] at c0 c1
  exact ⟨c0, c1⟩
end Go.Proofs.YtmjcdggmofohcaaGreat

namespace Go.Proofs.YtmjcdggmofohcaaGreat
open Go.ChangeShapes Go.WideShapes Go.RowKit Go.Deep
def numOfV : Value → Int
  | .int _ n => n
  | _ => 0
theorem cell_lt {w : World} {a : Addr} {v : Value} (h : w.cell? a = some v) : a.block < w.heap.size := by
  rcases Nat.lt_or_ge a.block w.heap.size with hl | hl
  · exact hl
  · unfold World.cell? at h
    rw [Array.getElem?_eq_none hl] at h
    simp at h
section
variable {H : Type} {enc : TypeId × Value → H} {P : Program} {w : World} {base : Nat} {spare : Nat → Bool} {held : Bool} {r : Reach} {b0 : Nat}
theorem open_prs {t e : TypeId} {f0 f1 : Field} {v : Value} {d : DataW H} {p : List MemPlace} (ht : P.underlying t = some (.slice e)) (he : P.underlying e = some (.struct #[f0, f1]))
    (ce : P.cellsOf e = 2) (o0 : f0.offset = 0) (o1 : f1.offset = 1) (c0 : P.cellsOf f0.type = 1) (c1 : P.cellsOf f1.type = 1)
    (h0 : P.underlying f0.type = some (.int .i64)) (h1 : P.underlying f1.type = some (.int .i64))
    (hv : Value.okWide P w r b0 t v) (h : DataW.Trod enc P w base spare held t v d p) :
    ∃ (A : Option Addr) (c : Nat) (gs : List (Int × Int)), v = .slice A gs.length c ∧ Prs w w.heap.size A gs ∧ gs.length ≤ maxLen := by
  obtain ⟨A, len, cap, rfl⟩ := okWide_slice ht hv
  obtain ⟨fuel, hf⟩ := h
  rcases open_slice_pairs ht he ce o0 o1 c0 c1 hf with ⟨hc, _⟩ | ⟨a, len', cap', m, n, V0, V1, D0, D1, P0, P1, hc, _, hl, hm, hmm, _, hx⟩
  · simp [Value.cells] at hc
    obtain ⟨rfl, rfl, rfl⟩ := hc
    exact ⟨none, 0, [], rfl, fun h => by simp at h, by simp⟩
  · simp [Value.cells] at hc
    obtain ⟨rfl, rfl, rfl⟩ := hc
    have hlm : len ≤ m := by rw [hmm]; split <;> omega
    refine ⟨some a, cap, (List.range len).map (fun i => (numOfV (V0 i), numOfV (V1 i))), by simp, fun hn => ?_, by simp; omega⟩
    have hn' : 0 < len := by simpa using hn
    have hc0 := (hx 0 (by omega)).1
    have hs := World.cell?_spot hc0
    have hlt := cell_lt hc0
    obtain ⟨b, off, spot⟩ := a
    have hs' : spot = none := by simpa [Addr.add] using hs
    subst hs'
    have hadd : ∀ j, (⟨b, off, none⟩ : Addr).add j = ⟨b, off + j, none⟩ := fun j => by
      unfold Addr.add
      by_cases h0 : j = 0 <;> simp [h0]
    refine ⟨b, off, rfl, by simpa [hadd] using hlt, fun k g hg => ?_⟩
    have hk : k < len := by
      have := (List.getElem?_eq_some_iff.1 hg).1
      simpa using this
    have hg' : g = (numOfV (V0 k), numOfV (V1 k)) := by
      rw [List.getElem?_map, List.getElem?_range hk] at hg
      simpa using hg.symm
    subst hg'
    obtain ⟨x0, x1, x2, x3⟩ := hx k (by omega)
    rw [hadd] at x0 x1
    obtain ⟨i0, e0, _, _⟩ := DataW.trod_int h0 x2
    obtain ⟨i1, e1, _, _⟩ := DataW.trod_int h1 x3
    have e0' : V0 k = .int .i64 i0 := by simpa [c0] using e0
    have e1' : V1 k = .int .i64 i1 := by simpa [c1] using e1
    rw [← Nat.add_assoc] at x1
    rw [x0, x1, e0', e1']
    exact ⟨rfl, rfl⟩
end
end Go.Proofs.YtmjcdggmofohcaaGreat
namespace Go.Proofs.YtmjcdggmofohcaaGreat
namespace Geo
/-- The doubled area of three points. -/
def turn (a b c : Int × Int) : Int := (b.1 - a.1) * (c.2 - a.2) - (b.2 - a.2) * (c.1 - a.1)
def ptB (c : Int × Int) : Bool := inB c.1 (-200) 200 && inB c.2 (-200) 200
def btwB (a b c : Int) : Bool := decide (min a c ≤ b) && decide (b ≤ max a c)
def onB (a b p : Int × Int) : Bool := decide (turn a b p = 0) && (btwB a.1 p.1 b.1 && btwB a.2 p.2 b.2)
def passB (a b p : Int × Int) : Bool := decide (p ≠ a) && (decide (p ≠ b) && onB a b p)
def partB (a b c d : Int × Int) : Bool := (decide (turn a b c < 0) && decide (0 < turn a b d)) || (decide (0 < turn a b c) && decide (turn a b d < 0))
/-- Numbers that are small enough to be reckoned with. -/
def sm (a : Int × Int) : Prop := (-1000 ≤ a.1 ∧ a.1 ≤ 1000) ∧ (-1000 ≤ a.2 ∧ a.2 ≤ 1000)
theorem turn_bd {a b c : Int × Int} (ha : sm a) (hb : sm b) (hc : sm c) :
    (-4000000 ≤ (b.1 - a.1) * (c.2 - a.2) ∧ (b.1 - a.1) * (c.2 - a.2) ≤ 4000000) ∧ (-4000000 ≤ (b.2 - a.2) * (c.1 - a.1) ∧ (b.2 - a.2) * (c.1 - a.1) ≤ 4000000) ∧ (-8000000 ≤ turn a b c ∧ turn a b c ≤ 8000000) := by
  unfold sm at *
  have h1 := mul_bd (a := b.1 - a.1) (b := c.2 - a.2) (x := 2000) (y := 2000) (by omega) (by omega) (by omega) (by omega)
  have h2 := mul_bd (a := b.2 - a.2) (b := c.1 - a.1) (x := 2000) (y := 2000) (by omega) (by omega) (by omega) (by omega)
  unfold turn
  omega
end Geo
end Go.Proofs.YtmjcdggmofohcaaGreat

namespace Go.Proofs.YtmjcdggmofohcaaGreat
open Go.RowKit

set_option maxHeartbeats 400000 in
theorem between_any (a b c : Int) (w : World) :
    Calls Tryz.prog 95 #[.int .i64 a, .int .i64 b, .int .i64 c] w fun e w' => e = .returned (.bool (Geo.btwB a b c)) ∧ w = w' := by
  go_enter Tryz.func95, Tryz.ntmps95
  go_wp2
  all_goals
    go_ret
    refine ⟨ret_b ?_, rfl⟩
    unfold Geo.btwB
    rw [Bool.eq_iff_iff]
    simp
    omega

set_option maxHeartbeats 400000 in
theorem inReach_any (x y : Int) (w : World) :
    Calls Tryz.prog 74 #[.agg #[.int .i64 x, .int .i64 y]] w fun e w' => e = .returned (.bool (Geo.ptB (x, y))) ∧ Below w.heap.size w w' := by
  go_enter Tryz.func74, Tryz.ntmps74
  go_wp2
  all_goals
    go_ret
    refine ⟨ret_b ?_, (Below.refl _ _).alloc (Nat.le_refl _) _⟩
    rw [Bool.eq_iff_iff]
    simp [Geo.ptB, inB]
    try omega

set_option maxHeartbeats 1000000 in
theorem turn_any (x1 y1 x2 y2 x y : Int) (w : World) (h1 : Geo.sm (x1, y1)) (h2 : Geo.sm (x2, y2)) (h3 : Geo.sm (x, y)) :
    Calls Tryz.prog 77 #[.agg #[.int .i64 x1, .int .i64 y1, .int .i64 x2, .int .i64 y2], .agg #[.int .i64 x, .int .i64 y]] w
      fun e w' => e = .returned (.int .i64 (Geo.turn (x1, y1) (x2, y2) (x, y))) ∧ Below w.heap.size w w' := by
  have hb := Geo.turn_bd h1 h2 h3
  have HT := Lib.hid (show Geo.turn (x1, y1) (x2, y2) (x, y) = (x2 - x1) * (y - y1) - (y2 - y1) * (x - x1) from rfl)
  generalize Geo.turn (x1, y1) (x2, y2) (x, y) = T at *
  obtain ⟨b1, b2, -⟩ := hb
  dsimp only at b1 b2
  obtain ⟨b11, b12⟩ := b1
  obtain ⟨b21, b22⟩ := b2
  unfold Geo.sm at h1 h2 h3
  dsimp only at h1 h2 h3
  go_enter Tryz.func77, Tryz.ntmps77
  go_wp2_with fail
  go_returns
  exact ⟨ret_i HT.out.symm, by (repeat' (first | (with_reducible exact Below.refl _ _) | (with_reducible assumption) | (with_reducible refine Below.alloc ?_ ?_ _) | (with_reducible refine below_drewN ?_ _) | (with_reducible refine Below.drew ?_) | (with_reducible refine Below.setCell ?_ ?_ _) | go_size))⟩
end Go.Proofs.YtmjcdggmofohcaaGreat

namespace Go.Proofs.YtmjcdggmofohcaaGreat
open Go.RowKit

set_option maxHeartbeats 1000000 in
theorem has_any (x1 y1 x2 y2 x y : Int) (w : World) (h1 : Geo.sm (x1, y1)) (h2 : Geo.sm (x2, y2)) (h3 : Geo.sm (x, y)) :
    Calls Tryz.prog 76 #[.agg #[.int .i64 x1, .int .i64 y1, .int .i64 x2, .int .i64 y2], .agg #[.int .i64 x, .int .i64 y]] w
      fun e w' => e = .returned (.bool (Geo.onB (x1, y1) (x2, y2) (x, y))) ∧ Below w.heap.size w w' := by
  have x0 : Hid (∀ W, Calls Tryz.prog 77 #[.agg #[.int .i64 x1, .int .i64 y1, .int .i64 x2, .int .i64 y2], .agg #[.int .i64 x, .int .i64 y]] W fun e w' => e = .returned (.int .i64 (Geo.turn (x1, y1) (x2, y2) (x, y))) ∧ Below W.heap.size W w') := fun W => turn_any x1 y1 x2 y2 x y W h1 h2 h3
  have HO : Hid (Geo.onB (x1, y1) (x2, y2) (x, y) = (decide (Geo.turn (x1, y1) (x2, y2) (x, y) = 0) && (Geo.btwB x1 x x2 && Geo.btwB y1 y y2))) := rfl
  generalize Geo.onB (x1, y1) (x2, y2) (x, y) = V at *
  generalize Geo.turn (x1, y1) (x2, y2) (x, y) = T at *
  clear h1 h2 h3
  by_cases hT : T = 0
  · have hB : (T == 0) = true := by simpa using hT
    have hD : Hid (decide (T = 0) = true) := by simpa [Hid] using hT
    clear hT
    cases hX : Geo.btwB x1 x x2
    · have HX := Lib.hid hX
      clear hX
      go_enter Tryz.func76, Tryz.ntmps76
      go_wp2_with fail
      refine (x0.out _).mono ?_
      rintro e w1 ⟨rfl, hb1⟩
      have hB1 : Below w.heap.size w w1 := Below.trans (by (repeat' (first | (with_reducible exact Below.refl _ _) | (with_reducible assumption) | (with_reducible refine Below.alloc ?_ ?_ _) | (with_reducible refine below_drewN ?_ _) | (with_reducible refine Below.drew ?_) | (with_reducible refine Below.setCell ?_ ?_ _) | go_size))) (hb1.mono (by first | omega | (simp; done) | (simp; omega))); have hz1 := hb1.size; try simp at hz1
      have hl1S : w.heap.size < w1.heap.size := (by omega); have hx1S0 : w1.cell? ⟨w.heap.size, 0, none⟩ = some (.int .i64 (x1)) := (by rw [(hb1.cell (by first | omega | (simp; done) | (simp; omega)))]; (repeat (rw [World.cell?_alloc_lt _ _ _ (by first | omega | (simp; done) | (simp; omega))])); go_cell); have hx1S1 : w1.cell? ⟨w.heap.size, 1, none⟩ = some (.int .i64 (y1)) := (by rw [(hb1.cell (by first | omega | (simp; done) | (simp; omega)))]; (repeat (rw [World.cell?_alloc_lt _ _ _ (by first | omega | (simp; done) | (simp; omega))])); go_cell); have hx1S2 : w1.cell? ⟨w.heap.size, 2, none⟩ = some (.int .i64 (x2)) := (by rw [(hb1.cell (by first | omega | (simp; done) | (simp; omega)))]; (repeat (rw [World.cell?_alloc_lt _ _ _ (by first | omega | (simp; done) | (simp; omega))])); go_cell); have hx1S3 : w1.cell? ⟨w.heap.size, 3, none⟩ = some (.int .i64 (y2)) := (by rw [(hb1.cell (by first | omega | (simp; done) | (simp; omega)))]; (repeat (rw [World.cell?_alloc_lt _ _ _ (by first | omega | (simp; done) | (simp; omega))])); go_cell)
      have hl1P : w.heap.size + 1 < w1.heap.size := (by omega); have hx1P0 : w1.cell? ⟨w.heap.size + 1, 0, none⟩ = some (.int .i64 (x)) := (by rw [(hb1.cell (by first | omega | (simp; done) | (simp; omega)))]; (repeat (rw [World.cell?_alloc_lt _ _ _ (by first | omega | (simp; done) | (simp; omega))])); go_cell); have hx1P1 : w1.cell? ⟨w.heap.size + 1, 1, none⟩ = some (.int .i64 (y)) := (by rw [(hb1.cell (by first | omega | (simp; done) | (simp; omega)))]; (repeat (rw [World.cell?_alloc_lt _ _ _ (by first | omega | (simp; done) | (simp; omega))])); go_cell)
      go_wp2_with fail
      refine (between_any _ _ _ _).mono ?_
      rintro e w2 ⟨rfl, rfl⟩
      rw [HX.out]
      go_wp2_with fail
      go_returns
      exact ⟨ret_b (by rw [HO.out, hD.out, HX.out]; rfl), by (repeat' (first | (with_reducible exact Below.refl _ _) | (with_reducible assumption) | (with_reducible refine Below.alloc ?_ ?_ _) | (with_reducible refine below_drewN ?_ _) | (with_reducible refine Below.drew ?_) | (with_reducible refine Below.setCell ?_ ?_ _) | go_size))⟩
    · have HX := Lib.hid hX
      clear hX
      go_enter Tryz.func76, Tryz.ntmps76
      go_wp2_with fail
      refine (x0.out _).mono ?_
      rintro e w1 ⟨rfl, hb1⟩
      have hB1 : Below w.heap.size w w1 := Below.trans (by (repeat' (first | (with_reducible exact Below.refl _ _) | (with_reducible assumption) | (with_reducible refine Below.alloc ?_ ?_ _) | (with_reducible refine below_drewN ?_ _) | (with_reducible refine Below.drew ?_) | (with_reducible refine Below.setCell ?_ ?_ _) | go_size))) (hb1.mono (by first | omega | (simp; done) | (simp; omega))); have hz1 := hb1.size; try simp at hz1
      have hl1S : w.heap.size < w1.heap.size := (by omega); have hx1S0 : w1.cell? ⟨w.heap.size, 0, none⟩ = some (.int .i64 (x1)) := (by rw [(hb1.cell (by first | omega | (simp; done) | (simp; omega)))]; (repeat (rw [World.cell?_alloc_lt _ _ _ (by first | omega | (simp; done) | (simp; omega))])); go_cell); have hx1S1 : w1.cell? ⟨w.heap.size, 1, none⟩ = some (.int .i64 (y1)) := (by rw [(hb1.cell (by first | omega | (simp; done) | (simp; omega)))]; (repeat (rw [World.cell?_alloc_lt _ _ _ (by first | omega | (simp; done) | (simp; omega))])); go_cell); have hx1S2 : w1.cell? ⟨w.heap.size, 2, none⟩ = some (.int .i64 (x2)) := (by rw [(hb1.cell (by first | omega | (simp; done) | (simp; omega)))]; (repeat (rw [World.cell?_alloc_lt _ _ _ (by first | omega | (simp; done) | (simp; omega))])); go_cell); have hx1S3 : w1.cell? ⟨w.heap.size, 3, none⟩ = some (.int .i64 (y2)) := (by rw [(hb1.cell (by first | omega | (simp; done) | (simp; omega)))]; (repeat (rw [World.cell?_alloc_lt _ _ _ (by first | omega | (simp; done) | (simp; omega))])); go_cell)
      have hl1P : w.heap.size + 1 < w1.heap.size := (by omega); have hx1P0 : w1.cell? ⟨w.heap.size + 1, 0, none⟩ = some (.int .i64 (x)) := (by rw [(hb1.cell (by first | omega | (simp; done) | (simp; omega)))]; (repeat (rw [World.cell?_alloc_lt _ _ _ (by first | omega | (simp; done) | (simp; omega))])); go_cell); have hx1P1 : w1.cell? ⟨w.heap.size + 1, 1, none⟩ = some (.int .i64 (y)) := (by rw [(hb1.cell (by first | omega | (simp; done) | (simp; omega)))]; (repeat (rw [World.cell?_alloc_lt _ _ _ (by first | omega | (simp; done) | (simp; omega))])); go_cell)
      go_wp2_with fail
      refine (between_any _ _ _ _).mono ?_
      rintro e w2 ⟨rfl, rfl⟩
      rw [HX.out]
      go_wp2_with fail
      refine (between_any _ _ _ _).mono ?_
      rintro e w2 ⟨rfl, rfl⟩
      go_wp2_with fail
      go_returns
      exact ⟨ret_b (by rw [HO.out, hD.out, HX.out]; rfl), by (repeat' (first | (with_reducible exact Below.refl _ _) | (with_reducible assumption) | (with_reducible refine Below.alloc ?_ ?_ _) | (with_reducible refine below_drewN ?_ _) | (with_reducible refine Below.drew ?_) | (with_reducible refine Below.setCell ?_ ?_ _) | go_size))⟩
  · have hB : (T == 0) = false := by simpa using hT
    have hD : Hid (decide (T = 0) = false) := by simpa [Hid] using hT
    clear hT
    go_enter Tryz.func76, Tryz.ntmps76
    go_wp2_with fail
    refine (x0.out _).mono ?_
    rintro e w1 ⟨rfl, hb1⟩
    have hB1 : Below w.heap.size w w1 := Below.trans (by (repeat' (first | (with_reducible exact Below.refl _ _) | (with_reducible assumption) | (with_reducible refine Below.alloc ?_ ?_ _) | (with_reducible refine below_drewN ?_ _) | (with_reducible refine Below.drew ?_) | (with_reducible refine Below.setCell ?_ ?_ _) | go_size))) (hb1.mono (by first | omega | (simp; done) | (simp; omega))); have hz1 := hb1.size; try simp at hz1
    go_wp2_with fail
    go_returns
    exact ⟨ret_b (by rw [HO.out, hD.out]; rfl), by (repeat' (first | (with_reducible exact Below.refl _ _) | (with_reducible assumption) | (with_reducible refine Below.alloc ?_ ?_ _) | (with_reducible refine below_drewN ?_ _) | (with_reducible refine Below.drew ?_) | (with_reducible refine Below.setCell ?_ ?_ _) | go_size))⟩

set_option maxHeartbeats 1000000 in
theorem fan_any (x1 y1 x2 y2 : Int) (w : World) (h1 : Geo.sm (x1, y1)) (h2 : Geo.sm (x2, y2)) :
    Calls Tryz.prog 54 #[.agg #[.int .i64 x1, .int .i64 y1, .int .i64 x2, .int .i64 y2]] w
      fun e w' => e = .returned (.int .i64 (Geo.turn (x1, y1) (x2, y2) (0, 0))) ∧ Below w.heap.size w w' := by
  have x0 : Hid (∀ W, Calls Tryz.prog 77 #[.agg #[.int .i64 x1, .int .i64 y1, .int .i64 x2, .int .i64 y2], .agg #[.int .i64 0, .int .i64 0]] W fun e w' => e = .returned (.int .i64 (Geo.turn (x1, y1) (x2, y2) (0, 0))) ∧ Below W.heap.size W w') := fun W => turn_any x1 y1 x2 y2 0 0 W h1 h2 (by unfold Geo.sm; omega)
  generalize Geo.turn (x1, y1) (x2, y2) (0, 0) = T at *
  clear h1 h2
  go_enter Tryz.func54, Tryz.ntmps54
  go_wp2_with fail
  refine (x0.out _).mono ?_
  rintro e w1 ⟨rfl, hb1⟩
  have hB1 : Below w.heap.size w w1 := Below.trans (by (repeat' (first | (with_reducible exact Below.refl _ _) | (with_reducible assumption) | (with_reducible refine Below.alloc ?_ ?_ _) | (with_reducible refine below_drewN ?_ _) | (with_reducible refine Below.drew ?_) | (with_reducible refine Below.setCell ?_ ?_ _) | go_size))) (hb1.mono (by first | omega | (simp; done) | (simp; omega))); have hz1 := hb1.size; try simp at hz1
  go_wp2_with fail
  go_returns
  exact ⟨rfl, by (repeat' (first | (with_reducible exact Below.refl _ _) | (with_reducible assumption) | (with_reducible refine Below.alloc ?_ ?_ _) | (with_reducible refine below_drewN ?_ _) | (with_reducible refine Below.drew ?_) | (with_reducible refine Below.setCell ?_ ?_ _) | go_size))⟩

set_option maxHeartbeats 1000000 in
theorem passes_any (x1 y1 x2 y2 x y : Int) (w : World) (h1 : Geo.sm (x1, y1)) (h2 : Geo.sm (x2, y2)) (h3 : Geo.sm (x, y)) :
    Calls Tryz.prog 51 #[.agg #[.int .i64 x1, .int .i64 y1, .int .i64 x2, .int .i64 y2], .agg #[.int .i64 x, .int .i64 y]] w
      fun e w' => e = .returned (.bool (Geo.passB (x1, y1) (x2, y2) (x, y))) ∧ Below w.heap.size w w' := by
  have x0 : Hid (∀ W, Calls Tryz.prog 76 #[.agg #[.int .i64 x1, .int .i64 y1, .int .i64 x2, .int .i64 y2], .agg #[.int .i64 x, .int .i64 y]] W fun e w' => e = .returned (.bool (Geo.onB (x1, y1) (x2, y2) (x, y))) ∧ Below W.heap.size W w') := fun W => has_any x1 y1 x2 y2 x y W h1 h2 h3
  have HO : Hid (Geo.passB (x1, y1) (x2, y2) (x, y) = (decide ((x, y) ≠ (x1, y1)) && (decide ((x, y) ≠ (x2, y2)) && Geo.onB (x1, y1) (x2, y2) (x, y)))) := rfl
  generalize Geo.passB (x1, y1) (x2, y2) (x, y) = V at *
  generalize Geo.onB (x1, y1) (x2, y2) (x, y) = T at *
  clear h1 h2 h3
  rcases Decidable.em (x = x1) with rfl | a1
  · rcases Decidable.em (y = y1) with rfl | b1
    · go_enter Tryz.func51, Tryz.ntmps51
      go_wp2_with fail
      go_returns
      exact ⟨ret_b (by rw [HO.out]; simp), by (repeat' (first | (with_reducible exact Below.refl _ _) | (with_reducible assumption) | (with_reducible refine Below.alloc ?_ ?_ _) | (with_reducible refine below_drewN ?_ _) | (with_reducible refine Below.drew ?_) | (with_reducible refine Below.setCell ?_ ?_ _) | go_size))⟩
    · rcases Decidable.em (x = x2) with rfl | a2
      · rcases Decidable.em (y = y2) with rfl | b2
        · go_enter Tryz.func51, Tryz.ntmps51
          go_wp2_with fail
          go_returns
          exact ⟨ret_b (by rw [HO.out]; simp), by (repeat' (first | (with_reducible exact Below.refl _ _) | (with_reducible assumption) | (with_reducible refine Below.alloc ?_ ?_ _) | (with_reducible refine below_drewN ?_ _) | (with_reducible refine Below.drew ?_) | (with_reducible refine Below.setCell ?_ ?_ _) | go_size))⟩
        · go_enter Tryz.func51, Tryz.ntmps51
          go_wp2_with fail
          refine (x0.out _).mono ?_
          rintro e w1 ⟨rfl, hb1⟩
          have hB1 : Below w.heap.size w w1 := Below.trans (by (repeat' (first | (with_reducible exact Below.refl _ _) | (with_reducible assumption) | (with_reducible refine Below.alloc ?_ ?_ _) | (with_reducible refine below_drewN ?_ _) | (with_reducible refine Below.drew ?_) | (with_reducible refine Below.setCell ?_ ?_ _) | go_size))) (hb1.mono (by first | omega | (simp; done) | (simp; omega))); have hz1 := hb1.size; try simp at hz1
          go_wp2_with fail
          go_returns
          exact ⟨ret_b (by rw [HO.out]; simp [*]), by (repeat' (first | (with_reducible exact Below.refl _ _) | (with_reducible assumption) | (with_reducible refine Below.alloc ?_ ?_ _) | (with_reducible refine below_drewN ?_ _) | (with_reducible refine Below.drew ?_) | (with_reducible refine Below.setCell ?_ ?_ _) | go_size))⟩
      · go_enter Tryz.func51, Tryz.ntmps51
        go_wp2_with fail
        refine (x0.out _).mono ?_
        rintro e w1 ⟨rfl, hb1⟩
        have hB1 : Below w.heap.size w w1 := Below.trans (by (repeat' (first | (with_reducible exact Below.refl _ _) | (with_reducible assumption) | (with_reducible refine Below.alloc ?_ ?_ _) | (with_reducible refine below_drewN ?_ _) | (with_reducible refine Below.drew ?_) | (with_reducible refine Below.setCell ?_ ?_ _) | go_size))) (hb1.mono (by first | omega | (simp; done) | (simp; omega))); have hz1 := hb1.size; try simp at hz1
        go_wp2_with fail
        go_returns
        exact ⟨ret_b (by rw [HO.out]; simp [*]), by (repeat' (first | (with_reducible exact Below.refl _ _) | (with_reducible assumption) | (with_reducible refine Below.alloc ?_ ?_ _) | (with_reducible refine below_drewN ?_ _) | (with_reducible refine Below.drew ?_) | (with_reducible refine Below.setCell ?_ ?_ _) | go_size))⟩
  · rcases Decidable.em (x = x2) with rfl | a2
    · rcases Decidable.em (y = y2) with rfl | b2
      · go_enter Tryz.func51, Tryz.ntmps51
        go_wp2_with fail
        go_returns
        exact ⟨ret_b (by rw [HO.out]; simp), by (repeat' (first | (with_reducible exact Below.refl _ _) | (with_reducible assumption) | (with_reducible refine Below.alloc ?_ ?_ _) | (with_reducible refine below_drewN ?_ _) | (with_reducible refine Below.drew ?_) | (with_reducible refine Below.setCell ?_ ?_ _) | go_size))⟩
      · go_enter Tryz.func51, Tryz.ntmps51
        go_wp2_with fail
        refine (x0.out _).mono ?_
        rintro e w1 ⟨rfl, hb1⟩
        have hB1 : Below w.heap.size w w1 := Below.trans (by (repeat' (first | (with_reducible exact Below.refl _ _) | (with_reducible assumption) | (with_reducible refine Below.alloc ?_ ?_ _) | (with_reducible refine below_drewN ?_ _) | (with_reducible refine Below.drew ?_) | (with_reducible refine Below.setCell ?_ ?_ _) | go_size))) (hb1.mono (by first | omega | (simp; done) | (simp; omega))); have hz1 := hb1.size; try simp at hz1
        go_wp2_with fail
        go_returns
        exact ⟨ret_b (by rw [HO.out]; simp [*]), by (repeat' (first | (with_reducible exact Below.refl _ _) | (with_reducible assumption) | (with_reducible refine Below.alloc ?_ ?_ _) | (with_reducible refine below_drewN ?_ _) | (with_reducible refine Below.drew ?_) | (with_reducible refine Below.setCell ?_ ?_ _) | go_size))⟩
    · go_enter Tryz.func51, Tryz.ntmps51
      go_wp2_with fail
      refine (x0.out _).mono ?_
      rintro e w1 ⟨rfl, hb1⟩
      have hB1 : Below w.heap.size w w1 := Below.trans (by (repeat' (first | (with_reducible exact Below.refl _ _) | (with_reducible assumption) | (with_reducible refine Below.alloc ?_ ?_ _) | (with_reducible refine below_drewN ?_ _) | (with_reducible refine Below.drew ?_) | (with_reducible refine Below.setCell ?_ ?_ _) | go_size))) (hb1.mono (by first | omega | (simp; done) | (simp; omega))); have hz1 := hb1.size; try simp at hz1
      go_wp2_with fail
      go_returns
      exact ⟨ret_b (by rw [HO.out]; simp [*]), by (repeat' (first | (with_reducible exact Below.refl _ _) | (with_reducible assumption) | (with_reducible refine Below.alloc ?_ ?_ _) | (with_reducible refine below_drewN ?_ _) | (with_reducible refine Below.drew ?_) | (with_reducible refine Below.setCell ?_ ?_ _) | go_size))⟩

theorem parts_keep {w0 W w' : World} {g h : Nat} {a b c d e f i j : Int}
    (hS : Below w0.heap.size w0 W ∧ (W.cell? ⟨g, 0, none⟩ = some (.int .i64 a) ∧ W.cell? ⟨g, 1, none⟩ = some (.int .i64 b) ∧ W.cell? ⟨g, 2, none⟩ = some (.int .i64 c) ∧ W.cell? ⟨g, 3, none⟩ = some (.int .i64 d)) ∧
      W.cell? ⟨h, 0, none⟩ = some (.int .i64 e) ∧ W.cell? ⟨h, 1, none⟩ = some (.int .i64 f) ∧ W.cell? ⟨h, 2, none⟩ = some (.int .i64 i) ∧ W.cell? ⟨h, 3, none⟩ = some (.int .i64 j))
    (hg : g < w0.heap.size) (hh : h < w0.heap.size) (hb : Below W.heap.size W w') :
    Below w0.heap.size w0 w' ∧ (w'.cell? ⟨g, 0, none⟩ = some (.int .i64 a) ∧ w'.cell? ⟨g, 1, none⟩ = some (.int .i64 b) ∧ w'.cell? ⟨g, 2, none⟩ = some (.int .i64 c) ∧ w'.cell? ⟨g, 3, none⟩ = some (.int .i64 d)) ∧
      w'.cell? ⟨h, 0, none⟩ = some (.int .i64 e) ∧ w'.cell? ⟨h, 1, none⟩ = some (.int .i64 f) ∧ w'.cell? ⟨h, 2, none⟩ = some (.int .i64 i) ∧ w'.cell? ⟨h, 3, none⟩ = some (.int .i64 j) := by
  obtain ⟨q, ⟨h0, h1, h2, h3⟩, h4, h5, h6, h7⟩ := hS
  have hz := q.size
  have c0 : g < W.heap.size := by omega
  have c1 : h < W.heap.size := by omega
  exact ⟨q.trans (hb.mono hz), ⟨(hb.cell c0).trans h0, (hb.cell c0).trans h1, (hb.cell c0).trans h2, (hb.cell c0).trans h3⟩, (hb.cell c1).trans h4, (hb.cell c1).trans h5, (hb.cell c1).trans h6, (hb.cell c1).trans h7⟩

set_option maxHeartbeats 1000000 in
theorem parts_any (x1 y1 x2 y2 x3 y3 x4 y4 : Int) (w : World) (h1 : Geo.sm (x1, y1)) (h2 : Geo.sm (x2, y2)) (h3 : Geo.sm (x3, y3)) (h4 : Geo.sm (x4, y4)) :
    Calls Tryz.prog 52 #[.agg #[.int .i64 x1, .int .i64 y1, .int .i64 x2, .int .i64 y2], .agg #[.int .i64 x3, .int .i64 y3, .int .i64 x4, .int .i64 y4]] w
      fun e w' => e = .returned (.bool (Geo.partB (x1, y1) (x2, y2) (x3, y3) (x4, y4))) ∧ Below w.heap.size w w' := by
  have x0 : Hid (∀ W, Calls Tryz.prog 77 #[.agg #[.int .i64 x1, .int .i64 y1, .int .i64 x2, .int .i64 y2], .agg #[.int .i64 x3, .int .i64 y3]] W fun e w' => e = .returned (.int .i64 (Geo.turn (x1, y1) (x2, y2) (x3, y3))) ∧ Below W.heap.size W w') := fun W => turn_any x1 y1 x2 y2 x3 y3 W h1 h2 h3
  have x5 : Hid (∀ W, Calls Tryz.prog 77 #[.agg #[.int .i64 x1, .int .i64 y1, .int .i64 x2, .int .i64 y2], .agg #[.int .i64 x4, .int .i64 y4]] W fun e w' => e = .returned (.int .i64 (Geo.turn (x1, y1) (x2, y2) (x4, y4))) ∧ Below W.heap.size W w') := fun W => turn_any x1 y1 x2 y2 x4 y4 W h1 h2 h4
  have HO : Hid (Geo.partB (x1, y1) (x2, y2) (x3, y3) (x4, y4) = ((decide (Geo.turn (x1, y1) (x2, y2) (x3, y3) < 0) && decide (0 < Geo.turn (x1, y1) (x2, y2) (x4, y4))) || (decide (0 < Geo.turn (x1, y1) (x2, y2) (x3, y3)) && decide (Geo.turn (x1, y1) (x2, y2) (x4, y4) < 0)))) := rfl
  generalize Geo.partB (x1, y1) (x2, y2) (x3, y3) (x4, y4) = V at *
  generalize Geo.turn (x1, y1) (x2, y2) (x3, y3) = S at *
  generalize Geo.turn (x1, y1) (x2, y2) (x4, y4) = T at *
  clear h1 h2 h3 h4
  go_enter Tryz.func52, Tryz.ntmps52
  go_wp2_with fail
  generalize hW : World.alloc _ _ = W
  have hB0 : Below w.heap.size w W := by rw [← hW]; clear hW; (repeat' (first | (with_reducible exact Below.refl _ _) | (with_reducible assumption) | (with_reducible refine Below.alloc ?_ ?_ _) | (with_reducible refine below_drewN ?_ _) | (with_reducible refine Below.drew ?_) | (with_reducible refine Below.setCell ?_ ?_ _) | go_size))
  have hlWs : w.heap.size < W.heap.size := (by rw [← hW]; clear hW; first | omega | (simp; done) | (simp; omega)); have hxWs0 : W.cell? ⟨w.heap.size, 0, none⟩ = some (.int .i64 (x1)) := (by rw [← hW]; clear hW; (repeat (rw [World.cell?_alloc_lt _ _ _ (by first | omega | (simp; done) | (simp; omega))])); go_cell); have hxWs1 : W.cell? ⟨w.heap.size, 1, none⟩ = some (.int .i64 (y1)) := (by rw [← hW]; clear hW; (repeat (rw [World.cell?_alloc_lt _ _ _ (by first | omega | (simp; done) | (simp; omega))])); go_cell); have hxWs2 : W.cell? ⟨w.heap.size, 2, none⟩ = some (.int .i64 (x2)) := (by rw [← hW]; clear hW; (repeat (rw [World.cell?_alloc_lt _ _ _ (by first | omega | (simp; done) | (simp; omega))])); go_cell); have hxWs3 : W.cell? ⟨w.heap.size, 3, none⟩ = some (.int .i64 (y2)) := (by rw [← hW]; clear hW; (repeat (rw [World.cell?_alloc_lt _ _ _ (by first | omega | (simp; done) | (simp; omega))])); go_cell)
  have hlWt : w.heap.size + 1 < W.heap.size := (by rw [← hW]; clear hW; first | omega | (simp; done) | (simp; omega)); have hxWt0 : W.cell? ⟨w.heap.size + 1, 0, none⟩ = some (.int .i64 (x3)) := (by rw [← hW]; clear hW; (repeat (rw [World.cell?_alloc_lt _ _ _ (by first | omega | (simp; done) | (simp; omega))])); go_cell); have hxWt1 : W.cell? ⟨w.heap.size + 1, 1, none⟩ = some (.int .i64 (y3)) := (by rw [← hW]; clear hW; (repeat (rw [World.cell?_alloc_lt _ _ _ (by first | omega | (simp; done) | (simp; omega))])); go_cell); have hxWt2 : W.cell? ⟨w.heap.size + 1, 2, none⟩ = some (.int .i64 (x4)) := (by rw [← hW]; clear hW; (repeat (rw [World.cell?_alloc_lt _ _ _ (by first | omega | (simp; done) | (simp; omega))])); go_cell); have hxWt3 : W.cell? ⟨w.heap.size + 1, 3, none⟩ = some (.int .i64 (y4)) := (by rw [← hW]; clear hW; (repeat (rw [World.cell?_alloc_lt _ _ _ (by first | omega | (simp; done) | (simp; omega))])); go_cell)
  clear hW
  go_region_held3 (fun w' => Below W.heap.size W w' ∧ (w'.cell? ⟨w.heap.size, 0, none⟩ = some (.int .i64 x1) ∧ w'.cell? ⟨w.heap.size, 1, none⟩ = some (.int .i64 y1) ∧ w'.cell? ⟨w.heap.size, 2, none⟩ = some (.int .i64 x2) ∧ w'.cell? ⟨w.heap.size, 3, none⟩ = some (.int .i64 y2)) ∧
      w'.cell? ⟨w.heap.size + 1, 0, none⟩ = some (.int .i64 x3) ∧ w'.cell? ⟨w.heap.size + 1, 1, none⟩ = some (.int .i64 y3) ∧ w'.cell? ⟨w.heap.size + 1, 2, none⟩ = some (.int .i64 x4) ∧ w'.cell? ⟨w.heap.size + 1, 3, none⟩ = some (.int .i64 y4))
    (first | exact ⟨Below.refl _ _, ⟨hxWs0, hxWs1, hxWs2, hxWs3⟩, hxWt0, hxWt1, hxWt2, hxWt3⟩ | exact ⟨(Below.refl _ _).drew, ⟨hxWs0, hxWs1, hxWs2, hxWs3⟩, hxWt0, hxWt1, hxWt2, hxWt3⟩ | (with_reducible assumption))
    (first
      | (go_at_call_of 77 (Value.agg #[Value.int IntKind.i64 x3, Value.int IntKind.i64 y3]); refine (x0.out _).mono ?_; rintro e w1 ⟨rfl, hb1⟩; have hS1 := parts_keep (by with_reducible assumption) hlWs hlWt hb1)
      | (go_at_call 77; refine (x5.out _).mono ?_; rintro e w2 ⟨rfl, hb2⟩; have hS2 := parts_keep (by with_reducible assumption) hlWs hlWt hb2))
  all_goals
    obtain ⟨q, -, -⟩ : Below W.heap.size W w2 ∧ _ := by assumption
    have hB2 := hB0.trans (q.mono hB0.size)
    clear hxWs0 hxWs1 hxWs2 hxWs3 hxWt0 hxWt1 hxWt2 hxWt3
    go_wp2_with fail
    all_goals
      go_returns
      exact ⟨ret_b (by rw [HO.out, Bool.eq_iff_iff]; simp; omega), hB2⟩
end Go.Proofs.YtmjcdggmofohcaaGreat
