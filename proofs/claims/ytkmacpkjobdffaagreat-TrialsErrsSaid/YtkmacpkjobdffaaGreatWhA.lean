/- Wheels: the small functions, and how many walks are not right. -/
import Derived.Test.YtkmacpkjobdffaaGreatLoops
import Derived.Test.YtkmacpkjobdffaaGreatFence
import Derived.Test.YtkmacpkjobdffaaGreatPairs
import Derived.Test.YtkmacpkjobdffaaGreatIntsB
namespace Go.Proofs.YtkmacpkjobdffaaGreat
open Go.RowKit
namespace Wh
/-- A walk: its sense, its side, 1 if the pole was inside, and both readings. -/
abbrev Wk := Int × Int × Int × Int × Int
abbrev Tr := Int × Int
/-- The numbers of a wheel, and walks. -/
structure Desk where
  full : Int
  read : Int
  slip : Int
  skew : Int
  circ : Int
  glo : Int
  ghi : Int
  wr : Int
  ws : List Wk
def signB (n : Int) : Bool := decide (n = 1) || decide (n = -1)
def wkB (full : Int) (k : Wk) : Bool := (((signB k.1 && signB k.2.1) && inB k.2.2.1 0 1) && inB k.2.2.2.1 0 (full - 1)) && inB k.2.2.2.2 0 (full - 1)
def whB (d : Desk) : Bool := ((((((inB d.full 10 10000 && inB d.read 0 20) && inB d.slip 0 20) && inB d.skew 0 20) && inB d.circ 0 9999) && inB d.glo 0 d.ghi) && decide (d.ghi ≤ 9999)) && inB d.wr 0 8
def modV (a b : Int) : Int := (a.tmod b + b).tmod b
def missV (_full read circ : Int) (k : Wk) (t : Tr) : Int := k.1 * (k.1 * (t.1 - k.2.2.1 * circ) + k.2.1 * t.2 - (k.2.2.2.2 - k.2.2.2.1)) + 2 * read
def looseV (d : Desk) : Int := d.slip + 4 * d.read
def rightB (d : Desk) (k : Wk) (t : Tr) : Bool := decide (modV (missV d.full d.read d.circ k t) d.full ≤ looseV d)
/-- Numbers of a wheel that can be reckoned with. -/
structure Ok (d : Desk) : Prop where
  f1 : 10 ≤ d.full
  f2 : d.full ≤ 10000
  r1 : 0 ≤ d.read
  r2 : d.read ≤ 20
  s1 : 0 ≤ d.slip
  s2 : d.slip ≤ 20
  k1 : 0 ≤ d.skew
  k2 : d.skew ≤ 20
  c1 : 0 ≤ d.circ
  c2 : d.circ ≤ 9999
  g1 : 0 ≤ d.glo
  g2 : d.glo ≤ d.ghi
  g3 : d.ghi ≤ 9999
  w1 : 0 ≤ d.wr
  w2 : d.wr ≤ 8
def ksm (k : Wk) : Prop := (-1 ≤ k.1 ∧ k.1 ≤ 1) ∧ (-1 ≤ k.2.1 ∧ k.2.1 ≤ 1) ∧ (0 ≤ k.2.2.1 ∧ k.2.2.1 ≤ 1) ∧ (0 ≤ k.2.2.2.1 ∧ k.2.2.2.1 ≤ 10000) ∧ (0 ≤ k.2.2.2.2 ∧ k.2.2.2.2 ≤ 10000)
theorem signB_iff {n : Int} : signB n = true ↔ n = 1 ∨ n = -1 := by unfold signB; simp
theorem wkB_sm {full : Int} (hf : full ≤ 10000) {k : Wk} (h : wkB full k = true) : ksm k := by
  unfold wkB inB at h
  simp only [Bool.and_eq_true, decide_eq_true_eq, signB_iff] at h
  unfold ksm
  omega
def tsm (t : Tr) : Prop := (0 ≤ t.1 ∧ t.1 ≤ 10000) ∧ (-20 ≤ t.2 ∧ t.2 ≤ 20)
def wkAt (ws : List Wk) (k : Nat) : Wk := ws[k]?.getD (0, 0, 0, 0, 0)
theorem wkAt_eq {ws : List Wk} {k : Nat} {c : Wk} (h : ws[k]? = some c) : wkAt ws k = c := by unfold wkAt; rw [h]; rfl
def wrongTo (d : Desk) (t : Tr) : Nat → Nat
  | 0 => 0
  | k + 1 => wrongTo d t k + (if rightB d (wkAt d.ws k) t then 0 else 1)
def wrongN (d : Desk) (t : Tr) : Nat := wrongTo d t d.ws.length
theorem wrongTo_le (d : Desk) (t : Tr) : ∀ k, wrongTo d t k ≤ k
  | 0 => Nat.le_refl _
  | k + 1 => by
    have := wrongTo_le d t k
    unfold wrongTo
    split <;> omega
theorem wrongTo_succ (d : Desk) (t : Tr) (k : Nat) : wrongTo d t (k + 1) = wrongTo d t k + (if rightB d (wkAt d.ws k) t then 0 else 1) := rfl
theorem tmod_bd {a b : Int} (h : 0 < b) : -b < a.tmod b ∧ a.tmod b < b := by
  have h1 : (a.tmod b).natAbs < b.natAbs := by rw [Int.natAbs_tmod]; exact Nat.mod_lt _ (by omega)
  omega
theorem modV_eq {a b : Int} (h : 0 < b) : modV a b = a % b := by
  have h1 := tmod_bd (a := a) h
  unfold modV
  rw [Int.tmod_eq_emod_of_nonneg (by omega), Int.add_emod_right]
  have h2 := Int.tmod_add_mul_tdiv a b
  conv => rhs; rw [← h2]
  rw [Int.add_mul_emod_self_left]
end Wh
set_option maxHeartbeats 400000 in
theorem within_any (n l h : Int) (w : World) : Calls Tryz.prog 110 #[.int .i64 n, .int .i64 l, .int .i64 h] w fun e w' => e = .returned (.bool (inB n l h)) ∧ w' = w := by
  go_enter Tryz.func110, Tryz.ntmps110
  go_wp2
  all_goals
    go_ret
    refine ⟨ret_b ?_, rfl⟩
    rw [Bool.eq_iff_iff]
    simp [inB]
    try omega
set_option maxHeartbeats 400000 in
theorem isSign_any (n : Int) (w : World) : Calls Tryz.prog 111 #[.int .i64 n] w fun e w' => e = .returned (.bool (Wh.signB n)) ∧ w' = w := by
  go_enter Tryz.func111, Tryz.ntmps111
  go_wp2
  all_goals
    go_ret
    refine ⟨ret_b ?_, rfl⟩
    rw [Bool.eq_iff_iff]
    simp [Wh.signB]
    try omega
set_option maxHeartbeats 400000 in
theorem modulo_any (a b : Int) (w : World) (_ha : -1000000000000 ≤ a ∧ a ≤ 1000000000000) (hb : 1 ≤ b ∧ b ≤ 1000000) :
    Calls Tryz.prog 158 #[.int .i64 a, .int .i64 b] w fun e w' => e = .returned (.int .i64 (Wh.modV a b)) ∧ w' = w := by
  have hd : Hid (Wh.modV a b = (a.tmod b + b).tmod b) := rfl
  have h1 := Wh.tmod_bd (a := a) (b := b) (by omega)
  have h2 := Wh.tmod_bd (a := a.tmod b + b) (b := b) (by omega)
  have hw1 : IntKind.i64.wrap (a.tmod b) = a.tmod b := IntWalk.i64_in _ (by omega)
  have hw2 : IntKind.i64.wrap (a.tmod b + b) = a.tmod b + b := IntWalk.i64_in _ (by omega)
  have hw3 : IntKind.i64.wrap ((a.tmod b + b).tmod b) = (a.tmod b + b).tmod b := IntWalk.i64_in _ (by omega)
  have hb0 : ¬ b = 0 := by omega
  generalize Wh.modV a b = R at *
  clear h1 h2
  go_enter Tryz.func158, Tryz.ntmps158
  go_wp2
  go_ret
  exact ⟨ret_i hd.out.symm, rfl⟩
theorem boxS9 {W : World} {B : Nat} {t : TypeId} {a b c d e f g h i : Value} (H : BoxS W B t #[a, b, c, d, e, f, g, h, i]) : ((W.cell? ⟨B, 0, none⟩ = some a ∧ W.cell? ⟨B, 1, none⟩ = some b ∧ W.cell? ⟨B, 2, none⟩ = some c) ∧ W.cell? ⟨B, 3, none⟩ = some d ∧ W.cell? ⟨B, 4, none⟩ = some e ∧ W.cell? ⟨B, 5, none⟩ = some f) ∧ W.cell? ⟨B, 6, none⟩ = some g ∧ W.cell? ⟨B, 7, none⟩ = some h ∧ W.cell? ⟨B, 8, none⟩ = some i := ⟨⟨⟨H.cell 0 rfl, H.cell 1 rfl, H.cell 2 rfl⟩, H.cell 3 rfl, H.cell 4 rfl, H.cell 5 rfl⟩, H.cell 6 rfl, H.cell 7 rfl, H.cell 8 rfl⟩
theorem boxS5 {W : World} {B : Nat} {t : TypeId} {a b c d e : Value} (H : BoxS W B t #[a, b, c, d, e]) : (W.cell? ⟨B, 0, none⟩ = some a ∧ W.cell? ⟨B, 1, none⟩ = some b ∧ W.cell? ⟨B, 2, none⟩ = some c) ∧ W.cell? ⟨B, 3, none⟩ = some d ∧ W.cell? ⟨B, 4, none⟩ = some e := ⟨⟨H.cell 0 rfl, H.cell 1 rfl, H.cell 2 rfl⟩, H.cell 3 rfl, H.cell 4 rfl⟩
/-- A slice of walks reads as a list of them. -/
def Wks (w : World) (B : Nat) (A : Option Addr) (ws : List Wh.Wk) : Prop :=
  0 < ws.length → ∃ b off, A = some ⟨b, off, none⟩ ∧ b < B ∧ ∀ k, k < ws.length → w.cell? ⟨b, off + k * 5, none⟩ = some (.int .i64 (Wh.wkAt ws k).1) ∧ w.cell? ⟨b, off + k * 5 + 1, none⟩ = some (.int .i64 (Wh.wkAt ws k).2.1) ∧ w.cell? ⟨b, off + k * 5 + 2, none⟩ = some (.int .i64 (Wh.wkAt ws k).2.2.1) ∧ w.cell? ⟨b, off + k * 5 + 3, none⟩ = some (.int .i64 (Wh.wkAt ws k).2.2.2.1) ∧ w.cell? ⟨b, off + k * 5 + 4, none⟩ = some (.int .i64 (Wh.wkAt ws k).2.2.2.2)
theorem Wks.keep {w w' : World} {B : Nat} {A : Option Addr} {ws : List Wh.Wk} (h : Wks w B A ws) (hb : Below B w w') : Wks w' B A ws := fun hn => by
  obtain ⟨b, off, e, hB, hc⟩ := h hn
  refine ⟨b, off, e, hB, fun k hk => ?_⟩
  obtain ⟨h0, h1, h2, h3, h4⟩ := hc k hk
  exact ⟨(hb.cell (p := ⟨b, _, none⟩) hB).trans h0, (hb.cell (p := ⟨b, _, none⟩) hB).trans h1, (hb.cell (p := ⟨b, _, none⟩) hB).trans h2, (hb.cell (p := ⟨b, _, none⟩) hB).trans h3, (hb.cell (p := ⟨b, _, none⟩) hB).trans h4⟩
theorem Wks.wider {w : World} {B B' : Nat} {A : Option Addr} {ws : List Wh.Wk} (h : Wks w B A ws) (hb : B ≤ B') : Wks w B' A ws := fun hn => by
  obtain ⟨b, off, e, hB, hc⟩ := h hn
  exact ⟨b, off, e, by omega, hc⟩
abbrev whV (d : Wh.Desk) : Array Value := #[.int .i64 d.full, .int .i64 d.read, .int .i64 d.slip, .int .i64 d.skew, .int .i64 d.circ, .int .i64 d.glo, .int .i64 d.ghi, .int .i64 d.wr]
abbrev dkV (d : Wh.Desk) (A : Option Addr) (c : Nat) : Array Value := #[.int .i64 d.full, .int .i64 d.read, .int .i64 d.slip, .int .i64 d.skew, .int .i64 d.circ, .int .i64 d.glo, .int .i64 d.ghi, .int .i64 d.wr, .slice A d.ws.length c]
end Go.Proofs.YtkmacpkjobdffaaGreat
