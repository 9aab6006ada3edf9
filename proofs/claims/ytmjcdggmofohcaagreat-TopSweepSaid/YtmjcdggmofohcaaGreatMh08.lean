/- Texts of this proof, one behind the other: Area. Each says its own conditions. -/
import Derived.Test.YtmjcdggmofohcaaGreatMh05
import Derived.Test.YtmjcdggmofohcaaGreatMh07
namespace Go.Proofs.YtmjcdggmofohcaaGreat
namespace Area
/-- The sum of the first values of a function. -/
def sumQ (f : Nat → Rat) : Nat → Rat
  | 0 => 0
  | n + 1 => sumQ f n + f n
theorem sumQ_nil (f : Nat → Rat) : sumQ f 0 = 0 := rfl
theorem sumQ_succ (f : Nat → Rat) (n : Nat) : sumQ f (n + 1) = sumQ f n + f n := rfl
theorem sumQ_congr {f g : Nat → Rat} : ∀ {n : Nat}, (∀ j, j < n → f j = g j) → sumQ f n = sumQ g n
  | 0, _ => rfl
  | n + 1, h => by
    unfold sumQ
    rw [sumQ_congr (n := n) (fun j hj => h j (by omega)), h n (by omega)]
theorem sumQ_add (f g : Nat → Rat) : ∀ n, sumQ (fun j => f j + g j) n = sumQ f n + sumQ g n
  | 0 => by unfold sumQ; grind
  | n + 1 => by unfold sumQ; rw [sumQ_add f g n]; grind
theorem sumQ_sub (f g : Nat → Rat) : ∀ n, sumQ (fun j => f j - g j) n = sumQ f n - sumQ g n
  | 0 => by unfold sumQ; grind
  | n + 1 => by unfold sumQ; rw [sumQ_sub f g n]; grind
theorem sumQ_zero : ∀ n, sumQ (fun _ => 0) n = 0
  | 0 => rfl
  | n + 1 => by unfold sumQ; rw [sumQ_zero n]; grind
theorem sumQ_one (c : Rat) (k : Nat) : ∀ n, sumQ (fun j => if j = k then c else 0) n = if k < n then c else 0
  | 0 => by unfold sumQ; simp
  | n + 1 => by unfold sumQ; rw [sumQ_one c k n]; grind
theorem sumQ_first (g : Nat → Rat) : ∀ n, sumQ g (n + 1) = g 0 + sumQ (fun j => g (j + 1)) n
  | 0 => by rw [sumQ_succ, sumQ_nil, sumQ_nil]; grind
  | n + 1 => by rw [sumQ_succ, sumQ_first g n, sumQ_succ]; grind
/-- A sum over the next ones, around, is the sum. -/
theorem sumQ_next (g : Nat → Rat) {n : Nat} (hn : 0 < n) : sumQ (fun j => g ((j + 1) % n)) n = sumQ g n := by
  obtain ⟨m, rfl⟩ : ∃ m, n = m + 1 := ⟨n - 1, by omega⟩
  rw [sumQ_first g m]
  rw [sumQ_succ, Nat.mod_self, sumQ_congr (n := m) (g := fun j => g (j + 1)) (fun j hj => by rw [Nat.mod_eq_of_lt (by omega)])]
  grind
theorem sumQ_swap (f : Nat → Nat → Rat) (n : Nat) : ∀ m, sumQ (fun s => sumQ (fun j => f j s) n) m = sumQ (fun j => sumQ (fun s => f j s) m) n
  | 0 => by rw [sumQ_nil, sumQ_congr (g := fun _ => 0) (fun j _ => sumQ_nil _), sumQ_zero]
  | m + 1 => by
    rw [show (fun j => sumQ (fun s => f j s) (m + 1)) = fun j => sumQ (fun s => f j s) m + f j m from rfl, sumQ_add, ← sumQ_swap f n m]
    rfl
theorem sumQ_tele (u : Nat → Rat) : ∀ m, sumQ (fun s => u (s + 1) - u s) m = u m - u 0
  | 0 => by unfold sumQ; grind
  | m + 1 => by unfold sumQ; rw [sumQ_tele u m]; grind
theorem sumQ_nonneg {f : Nat → Rat} : ∀ {n : Nat}, (∀ j, j < n → 0 ≤ f j) → 0 ≤ sumQ f n
  | 0, _ => by unfold sumQ; grind
  | n + 1, h => by
    have := sumQ_nonneg (n := n) (fun j hj => h j (by omega))
    have := h n (by omega)
    unfold sumQ; grind
theorem sumQ_pos {f : Nat → Rat} {n k : Nat} (h : ∀ j, j < n → 0 ≤ f j) (hk : k < n) (hp : 0 < f k) : 0 < sumQ f n := by
  induction n with
  | zero => omega
  | succ n ih =>
    unfold sumQ
    by_cases e : k = n
    · have := sumQ_nonneg (n := n) (fun j hj => h j (by omega))
      subst e; grind
    · have := ih (fun j hj => h j (by omega)) (by omega)
      have := h n (by omega)
      grind
theorem sumQ_neg (f : Nat → Rat) : ∀ n, sumQ (fun j => - f j) n = - sumQ f n
  | 0 => by unfold sumQ; grind
  | n + 1 => by unfold sumQ; rw [sumQ_neg f n]; grind

/-- The corner behind a corner. -/
def nxt (n i : Nat) : Nat := (i + 1) % n

section
variable (n : Nat) (x y : Nat → Int)
/-- The slope of a side: how far it goes to the right, for each step up. -/
def slo (i : Nat) : Rat := ((x (nxt n i) : Rat) - x i) / ((y (nxt n i) : Rat) - y i)
/-- Where a side is, at a height. -/
def pos (i : Nat) (h : Rat) : Rat := x i + slo n x y i * (h - y i)
/-- A side goes through all of the strip from a whole height to the next one. -/
def spn (i : Nat) (s : Int) : Prop := (y i ≤ s ∧ s + 1 ≤ y (nxt n i)) ∨ (y (nxt n i) ≤ s ∧ s + 1 ≤ y i)
/-- A height is one of a side. -/
def wk (i : Nat) (h : Rat) : Prop := ((y i : Rat) ≤ h ∧ h ≤ y (nxt n i)) ∨ ((y (nxt n i) : Rat) ≤ h ∧ h ≤ y i)
/-- 1 if a side goes up, otherwise -1. -/
def dir (i : Nat) : Rat := if y i < y (nxt n i) then 1 else -1
instance (i : Nat) (s : Int) : Decidable (spn n y i s) := by unfold spn; infer_instance

/-- A polygon whose corners have different heights, and whose sides meet at corners only. -/
structure Simple : Prop where
  three : 3 ≤ n
  inj : ∀ i j, i < n → j < n → y i = y j → i = j
  nc : ∀ i j h, i < n → j < n → i ≠ j → wk n y i h → wk n y j h → pos n x y i h = pos n x y j h → (j = nxt n i ∧ h = y j) ∨ (i = nxt n j ∧ h = y i)
end
variable {n : Nat} {x y : Nat → Int}
theorem nxt_lt {i : Nat} (h : i < n) : nxt n i < n := Nat.mod_lt _ (by omega)
theorem nxt_val {i : Nat} (h : i < n) : nxt n i = if i + 1 = n then 0 else i + 1 := by
  unfold nxt
  by_cases e : i + 1 = n
  · rw [if_pos e, e, Nat.mod_self]
  · rw [if_neg e, Nat.mod_eq_of_lt (by omega)]
theorem nxt_inj {i k : Nat} (hi : i < n) (hk : k < n) (h : nxt n i = nxt n k) : i = k := by
  rw [nxt_val hi, nxt_val hk] at h
  split at h <;> split at h <;> omega
theorem nxt_ne {i : Nat} (hn : 2 ≤ n) (hi : i < n) : nxt n i ≠ i := by
  rw [nxt_val hi]
  split <;> omega
theorem nxt2_ne {i : Nat} (hn : 3 ≤ n) (hi : i < n) : nxt n (nxt n i) ≠ i := by
  rw [nxt_val (nxt_lt hi), nxt_val hi]
  split <;> split <;> omega
theorem rat_cases (a b : Rat) : a < b ∨ b ≤ a := by grind
/-- A line that is above 0 at a place and below at another one is 0 between them. -/
theorem root {p q u : Rat} (hp : 0 < p) (hq : q < 0) (hu : 0 < u) (b : Rat) (hb : q = p + b * u) : ∃ r, 0 < r ∧ r < u ∧ p + b * r = 0 := by
  have hbn : b ≠ 0 := by rintro rfl; grind
  have hb0 : b < 0 := by
    rcases rat_cases b 0 with h | h
    · exact h
    · have := Rat.mul_nonneg h (Rat.le_of_lt hu); grind
  refine ⟨- p / b, ?_, ?_, ?_⟩
  · have : (-p / b) * b = -p := Rat.div_mul_cancel hbn
    rcases rat_cases 0 (-p / b) with h | h
    · exact h
    · have := Rat.mul_nonneg (a := - (-p/b)) (b := -b) (by grind) (by grind); grind
  · have : (-p / b) * b = -p := Rat.div_mul_cancel hbn
    rcases rat_cases (-p / b) u with h | h
    · exact h
    · have := Rat.mul_nonneg (a := (-p/b) - u) (b := -b) (by grind) (by grind); grind
  · have : (-p / b) * b = -p := Rat.div_mul_cancel hbn
    grind
namespace Simple
theorem y_ne (S : Simple n x y) {i : Nat} (hi : i < n) : y (nxt n i) ≠ y i := fun e => nxt_ne (by have := S.three; omega) hi (S.inj _ _ (nxt_lt hi) hi e)
theorem slo_mul (S : Simple n x y) {i : Nat} (hi : i < n) : slo n x y i * ((y (nxt n i) : Rat) - y i) = (x (nxt n i) : Rat) - x i := by
  unfold slo
  have : ((y (nxt n i) : Rat) - y i) ≠ 0 := fun e => S.y_ne hi (by have h : (y (nxt n i) : Rat) = (y i : Rat) := by grind
                                                                   exact_mod_cast h)
  exact Rat.div_mul_cancel this
theorem pos_at (i : Nat) : pos n x y i (y i) = x i := by unfold pos; grind
theorem pos_nxt (S : Simple n x y) {i : Nat} (hi : i < n) : pos n x y i (y (nxt n i)) = x (nxt n i) := by
  have := S.slo_mul hi
  unfold pos; grind
theorem spn_wk {i : Nat} {s : Int} {h : Rat} (hs : spn n y i s) (h1 : (s : Rat) ≤ h) (h2 : h ≤ (s : Rat) + 1) : wk n y i h := by
  unfold spn at hs
  unfold wk
  rcases hs with ⟨a, b⟩ | ⟨a, b⟩
  · have a' : (y i : Rat) ≤ (s : Rat) := by exact_mod_cast a
    have b' : ((s + 1 : Int) : Rat) ≤ (y (nxt n i) : Rat) := by exact_mod_cast b
    rw [Rat.intCast_add] at b'
    left
    constructor <;> grind
  · have a' : (y (nxt n i) : Rat) ≤ (s : Rat) := by exact_mod_cast a
    have b' : ((s + 1 : Int) : Rat) ≤ (y i : Rat) := by exact_mod_cast b
    rw [Rat.intCast_add] at b'
    right
    constructor <;> grind
/-- Two sides that go through a strip do not meet inside it. -/
theorem apart (S : Simple n x y) {i j : Nat} {s : Int} {h : Rat} (hi : i < n) (hj : j < n) (hij : i ≠ j) (si : spn n y i s) (sj : spn n y j s) (h1 : (s : Rat) < h) (h2 : h < (s : Rat) + 1) :
    pos n x y i h ≠ pos n x y j h := by
  intro e
  have key : ∀ z : Int, h = (z : Rat) → False := by
    intro z hz
    rw [hz] at h1 h2
    have a : s < z := by exact_mod_cast h1
    have b : (z : Rat) < ((s + 1 : Int) : Rat) := by rw [Rat.intCast_add]; grind
    have b : z < s + 1 := by exact_mod_cast b
    omega
  rcases S.nc i j h hi hj hij (spn_wk si (by grind) (by grind)) (spn_wk sj (by grind) (by grind)) e with ⟨_, h⟩ | ⟨_, h⟩
  · exact key _ h
  · exact key _ h
theorem lin (i j : Nat) (h k : Rat) : (pos n x y i k - pos n x y j k) = (pos n x y i h - pos n x y j h) + (slo n x y i - slo n x y j) * (k - h) := by
  unfold pos; grind
/-- The order of two sides in a strip is that at an end of it, if they do not meet there. -/
theorem order (S : Simple n x y) {i j : Nat} {s : Int} {e : Rat} (hi : i < n) (hj : j < n) (hij : i ≠ j) (si : spn n y i s) (sj : spn n y j s) (he : e = s ∨ e = (s : Rat) + 1)
    (hne : pos n x y j e ≠ pos n x y i e) : pos n x y j e < pos n x y i e ↔ pos n x y j ((s : Rat) + 1 / 2) < pos n x y i ((s : Rat) + 1 / 2) := by
  have hm := S.apart hi hj hij si sj (h := (s : Rat) + 1 / 2) (by grind) (by grind)
  have hl := lin (n := n) (x := x) (y := y) i j ((s : Rat) + 1 / 2) e
  have hz : ∀ r, 0 < r → r < (1 / 2 : Rat) → (pos n x y i ((s : Rat) + 1 / 2) - pos n x y j ((s : Rat) + 1 / 2)) + (slo n x y i - slo n x y j) * (if e = s then - r else r) ≠ 0 := by
    intro r h1 h2 h0
    have := lin (n := n) (x := x) (y := y) i j ((s : Rat) + 1 / 2) ((s : Rat) + 1 / 2 + (if e = s then - r else r))
    exact S.apart hi hj hij si sj (h := (s : Rat) + 1 / 2 + (if e = s then - r else r)) (by split <;> grind) (by split <;> grind) (by grind)
  generalize pos n x y i ((s : Rat) + 1 / 2) = a at *
  generalize pos n x y j ((s : Rat) + 1 / 2) = b at *
  generalize pos n x y i e = c at *
  generalize pos n x y j e = d at *
  generalize slo n x y i - slo n x y j = m at *
  have hw : ∃ v : Rat, c - d = (a - b) + v * (1 / 2) ∧ ∀ r, 0 < r → r < (1 / 2 : Rat) → (a - b) + v * r ≠ 0 := by
    rcases he with rfl | rfl
    · refine ⟨- m, by grind, fun r h1 h2 => ?_⟩
      have := hz r h1 h2
      rw [if_pos rfl] at this
      grind
    · refine ⟨m, by grind, fun r h1 h2 => ?_⟩
      have := hz r h1 h2
      rw [if_neg (by grind)] at this
      grind
  obtain ⟨v, h1, h2⟩ := hw
  constructor
  · intro h3
    rcases rat_cases b a with h4 | h4
    · exact h4
    · obtain ⟨r, r1, r2, r3⟩ := root (p := b - a) (q := d - c) (u := 1 / 2) (by grind) (by grind) (by grind) (-v) (by grind)
      exact absurd (by grind) (h2 r r1 r2)
  · intro h3
    rcases rat_cases d c with h4 | h4
    · exact h4
    · obtain ⟨r, r1, r2, r3⟩ := root (p := a - b) (q := c - d) (u := 1 / 2) (by grind) (by grind) (by grind) v (by grind)
      exact absurd (by grind) (h2 r r1 r2)
end Simple
section
variable (n : Nat) (x y : Nat → Int)
/-- What a side gives to the sum left of a place, at the end of a strip. -/
def tmL (a : Rat) (t s : Int) (j : Nat) : Rat := if spn n y j s ∧ pos n x y j t < a then dir n y j else 0
def sumL (a : Rat) (t s : Int) : Rat := sumQ (tmL n x y a t s) n
/-- What a side gives to the sum left of a side, in a strip. -/
def tmW (i : Nat) (s : Int) (j : Nat) : Rat := if spn n y j s ∧ pos n x y j ((s : Rat) + 1 / 2) < pos n x y i ((s : Rat) + 1 / 2) then dir n y j else 0
def sumW (i : Nat) (s : Int) : Rat := sumQ (tmW n x y i s) n
/-- How often the points to the left of a side's way are gone around. -/
def lev (i : Nat) (s : Int) : Rat := sumW n x y i s + (if y i < y (nxt n i) then 0 else -1)
end
variable {n : Nat} {x y : Nat → Int}
namespace Simple
/-- The sum left of a place is the same below and above. -/
theorem sumL_same (S : Simple n x y) (a : Rat) (t : Int) : sumL n x y a t (t - 1) = sumL n x y a t t := by
  have h : ∀ j, j < n → tmL n x y a t t j - tmL n x y a t (t - 1) j = (if y j = t ∧ (x j : Rat) < a then 1 else 0) - (if y (nxt n j) = t ∧ (x (nxt n j) : Rat) < a then (1 : Rat) else 0) := by
    intro j hj
    have hne := S.y_ne hj
    have p1 := pos_at (n := n) (x := x) (y := y) j
    have p2 := S.pos_nxt hj
    have s1 : spn n y j t ↔ ((y j ≤ t ∧ t + 1 ≤ y (nxt n j)) ∨ (y (nxt n j) ≤ t ∧ t + 1 ≤ y j)) := Iff.rfl
    have s2 : spn n y j (t - 1) ↔ ((y j ≤ t - 1 ∧ t - 1 + 1 ≤ y (nxt n j)) ∨ (y (nxt n j) ≤ t - 1 ∧ t - 1 + 1 ≤ y j)) := Iff.rfl
    unfold tmL dir
    by_cases e1 : y j = t
    · rw [e1] at p1
      rw [p1]
      by_cases hx : (x j : Rat) < a
      · simp only [hx, and_true]
        grind
      · simp only [hx, and_false, if_false]
        grind
    · by_cases e2 : y (nxt n j) = t
      · rw [e2] at p2
        rw [p2]
        by_cases hx : (x (nxt n j) : Rat) < a
        · simp only [hx, and_true]
          grind
        · simp only [hx, and_false, if_false]
          grind
      · rw [if_neg (c := y j = t ∧ _) (by omega), if_neg (c := y (nxt n j) = t ∧ _) (by omega)]
        have : spn n y j t ↔ spn n y j (t - 1) := by rw [s1, s2]; omega
        simp only [this]
        grind
  have h1 := sumQ_sub (tmL n x y a t t) (tmL n x y a t (t - 1)) n
  rw [sumQ_congr h] at h1
  have h2 := sumQ_sub (fun j => if y j = t ∧ (x j : Rat) < a then (1 : Rat) else 0) (fun j => if y (nxt n j) = t ∧ (x (nxt n j) : Rat) < a then (1 : Rat) else 0) n
  have h3 := sumQ_next (fun j => if y j = t ∧ (x j : Rat) < a then (1 : Rat) else 0) (n := n) (by have := S.three; omega)
  unfold nxt at h1 h2
  rw [h3] at h2
  rw [h2] at h1
  unfold sumL
  grind
/-- The sum left of a side is that left of its place at an end of the strip, but for one side that comes to the same place. -/
theorem sumW_end (S : Simple n x y) {i k : Nat} {s t : Int} (hi : i < n) (hk : k < n) (hki : k ≠ i) (si : spn n y i s) (ht : t = s ∨ t = s + 1)
    (ho : ∀ j, j < n → j ≠ i → j ≠ k → spn n y j s → pos n x y j t ≠ pos n x y i t) :
    sumW n x y i s = sumL n x y (pos n x y i t) t s + (if spn n y k s ∧ pos n x y k t = pos n x y i t ∧ pos n x y k ((s : Rat) + 1 / 2) < pos n x y i ((s : Rat) + 1 / 2) then dir n y k else 0) := by
  have he : (t : Rat) = s ∨ (t : Rat) = (s : Rat) + 1 := by
    rcases ht with rfl | rfl
    · left; rfl
    · right; rw [Rat.intCast_add]; rfl
  have h : ∀ j, j < n → tmW n x y i s j = tmL n x y (pos n x y i t) t s j + (if j = k then (if spn n y k s ∧ pos n x y k t = pos n x y i t ∧ pos n x y k ((s : Rat) + 1 / 2) < pos n x y i ((s : Rat) + 1 / 2) then dir n y k else 0) else 0) := by
    intro j hj
    unfold tmW tmL
    by_cases hs : spn n y j s
    · by_cases e1 : j = i
      · subst e1
        rw [if_neg (by grind), if_neg (by grind), if_neg (by omega)]; grind
      · by_cases e2 : pos n x y j t = pos n x y i t
        · have e3 : j = k := Decidable.byContradiction fun e => ho j hj e1 e hs e2
          subst e3
          rw [if_pos rfl, if_neg (c := _ ∧ pos n x y j t < _) (by grind)]
          by_cases hl : pos n x y j ((s : Rat) + 1 / 2) < pos n x y i ((s : Rat) + 1 / 2)
          · rw [if_pos ⟨hs, hl⟩, if_pos ⟨hs, e2, hl⟩]; grind
          · rw [if_neg (by simp [hl]), if_neg (by simp [hl])]; grind
        · have := S.order hi hj (fun e => e1 e.symm) si hs he e2
          have hz : (if j = k then (if spn n y k s ∧ pos n x y k t = pos n x y i t ∧ pos n x y k ((s : Rat) + 1 / 2) < pos n x y i ((s : Rat) + 1 / 2) then dir n y k else 0) else (0 : Rat)) = 0 := by
            by_cases e3 : j = k
            · subst e3; rw [if_pos rfl, if_neg (by simp [e2])]
            · rw [if_neg e3]
          rw [hz]
          simp only [this]
          grind
    · have hz : (if j = k then (if spn n y k s ∧ pos n x y k t = pos n x y i t ∧ pos n x y k ((s : Rat) + 1 / 2) < pos n x y i ((s : Rat) + 1 / 2) then dir n y k else 0) else (0 : Rat)) = 0 := by
        by_cases e3 : j = k
        · subst e3; rw [if_pos rfl, if_neg (by simp [hs])]
        · rw [if_neg e3]
      rw [hz, if_neg (by simp [hs]), if_neg (by simp [hs])]; grind
  unfold sumW sumL
  rw [sumQ_congr h, sumQ_add, sumQ_one, if_pos hk]
end Simple
variable {n : Nat} {x y : Nat → Int}
theorem spn_up {i : Nat} {s : Int} (h1 : y i ≤ s) (h2 : s + 1 ≤ y (nxt n i)) : spn n y i s := Or.inl ⟨h1, h2⟩
theorem spn_down {i : Nat} {s : Int} (h1 : y (nxt n i) ≤ s) (h2 : s + 1 ≤ y i) : spn n y i s := Or.inr ⟨h1, h2⟩
theorem spn_iff {i : Nat} {s : Int} : spn n y i s ↔ ((y i ≤ s ∧ s + 1 ≤ y (nxt n i)) ∨ (y (nxt n i) ≤ s ∧ s + 1 ≤ y i)) := Iff.rfl
theorem wk_of {i : Nat} {s t : Int} (hs : spn n y i s) (ht : t = s ∨ t = s + 1) : wk n y i t := by
  refine Simple.spn_wk hs ?_ ?_
  · rcases ht with rfl | rfl
    · grind
    · rw [Rat.intCast_add]; grind
  · rcases ht with rfl | rfl
    · grind
    · rw [Rat.intCast_add]; grind
theorem cast_inj {a b : Int} (h : (a : Rat) = (b : Rat)) : a = b := by exact_mod_cast h
/-- The first and the last strip of a side, in its direction. -/
def fs (n : Nat) (y : Nat → Int) (i : Nat) : Int := if y i < y (nxt n i) then y i else y i - 1
def ls (n : Nat) (y : Nat → Int) (i : Nat) : Int := if y i < y (nxt n i) then y (nxt n i) - 1 else y (nxt n i)
namespace Simple
/-- Along a side the level is the same. -/
theorem lev_along (S : Simple n x y) {i : Nat} {t : Int} (hi : i < n) (h1 : spn n y i (t - 1)) (h2 : spn n y i t) : lev n x y i (t - 1) = lev n x y i t := by
  have h3 := S.three
  have hin : nxt n i ≠ i := nxt_ne (by omega) hi
  have ho : ∀ s, (t = s ∨ t = s + 1) → spn n y i s → ∀ j, j < n → j ≠ i → j ≠ nxt n i → spn n y j s → pos n x y j t ≠ pos n x y i t := by
    intro s hs si j hj hji _ sj e
    rcases S.nc i j t hi hj (fun e => hji e.symm) (wk_of si hs) (wk_of sj hs) e.symm with ⟨h, h'⟩ | ⟨h, h'⟩
    · subst h; have := cast_inj h'; rw [spn_iff] at h1 h2; omega
    · have := cast_inj h'; rw [spn_iff] at h1 h2; omega
  have hk : ¬ (pos n x y (nxt n i) t = pos n x y i t ∧ (spn n y (nxt n i) (t - 1) ∨ spn n y (nxt n i) t)) := by
    rintro ⟨e, sj⟩
    have hw : wk n y (nxt n i) t := by
      rcases sj with sj | sj
      · exact wk_of sj (by omega)
      · exact wk_of sj (by omega)
    rcases S.nc i (nxt n i) t hi (nxt_lt hi) (fun e => hin e.symm) (wk_of h2 (by omega)) hw e.symm with ⟨h, h'⟩ | ⟨h, h'⟩
    · have := cast_inj h'; rw [spn_iff] at h1 h2; omega
    · have := cast_inj h'; rw [spn_iff] at h1 h2; omega
  have a := S.sumW_end (t := t) hi (nxt_lt hi) hin h1 (by omega) (ho _ (by omega) h1)
  have b := S.sumW_end (t := t) hi (nxt_lt hi) hin h2 (by omega) (ho _ (by omega) h2)
  rw [if_neg (fun h => hk ⟨h.2.1, Or.inl h.1⟩)] at a
  rw [if_neg (fun h => hk ⟨h.2.1, Or.inr h.1⟩)] at b
  have c := S.sumL_same (pos n x y i t) t
  unfold lev
  grind
theorem spn_fs (S : Simple n x y) {i : Nat} (hi : i < n) : spn n y i (fs n y i) := by
  have := S.y_ne hi
  unfold fs
  rw [spn_iff]
  split <;> omega
theorem spn_ls (S : Simple n x y) {i : Nat} (hi : i < n) : spn n y i (ls n y i) := by
  have := S.y_ne hi
  unfold ls
  rw [spn_iff]
  split <;> omega
/-- Around a corner the level is the same. -/
theorem lev_turn (S : Simple n x y) {i : Nat} (hi : i < n) : lev n x y i (ls n y i) = lev n x y (nxt n i) (fs n y (nxt n i)) := by
  have h3 := S.three
  have hk := nxt_lt hi
  have hik : nxt n i ≠ i := nxt_ne (by omega) hi
  have hik2 := nxt2_ne h3 hi
  have hy := S.y_ne hi
  have hy2 := S.y_ne hk
  have sl := S.spn_ls hi
  have sf := S.spn_fs hk
  have pi := S.pos_nxt hi
  have pk := pos_at (n := n) (x := x) (y := y) (nxt n i)
  have eq : pos n x y i (y (nxt n i)) = pos n x y (nxt n i) (y (nxt n i)) := by rw [pi, pk]
  have hl : y (nxt n i) = ls n y i ∨ y (nxt n i) = ls n y i + 1 := by unfold ls; split <;> omega
  have hf : y (nxt n i) = fs n y (nxt n i) ∨ y (nxt n i) = fs n y (nxt n i) + 1 := by unfold fs; split <;> omega
  have h1 : ∀ j, j < n → j ≠ i → j ≠ nxt n i → spn n y j (ls n y i) → pos n x y j (y (nxt n i)) ≠ pos n x y i (y (nxt n i)) := by
    intro j hj hji hjk sj e
    rcases S.nc i j _ hi hj (fun e => hji e.symm) (wk_of sl hl) (wk_of sj hl) e.symm with ⟨h, h'⟩ | ⟨h, h'⟩
    · exact hjk h
    · have := cast_inj h'; omega
  have h2 : ∀ j, j < n → j ≠ nxt n i → j ≠ i → spn n y j (fs n y (nxt n i)) → pos n x y j (y (nxt n i)) ≠ pos n x y (nxt n i) (y (nxt n i)) := by
    intro j hj hjk hji sj e
    rcases S.nc (nxt n i) j _ hk hj (fun e => hjk e.symm) (wk_of sf hf) (wk_of sj hf) e.symm with ⟨h, h'⟩ | ⟨h, h'⟩
    · subst h; have := cast_inj h'; omega
    · exact hji (nxt_inj hj hi h.symm)
  have a := S.sumW_end hi hk hik sl hl h1
  have b := S.sumW_end hk hi (fun e => hik e.symm) sf hf h2
  have c := S.sumL_same (pos n x y i (y (nxt n i))) (y (nxt n i))
  rw [← eq] at b
  have d : ∀ s, spn n y i s → spn n y (nxt n i) s → pos n x y i ((s : Rat) + 1 / 2) ≠ pos n x y (nxt n i) ((s : Rat) + 1 / 2) := fun s g1 g2 => S.apart hi hk (fun e => hik e.symm) g1 g2 (by grind) (by grind)
  have s1 := spn_iff (n := n) (y := y) (i := i) (s := y (nxt n i))
  have s2 := spn_iff (n := n) (y := y) (i := i) (s := y (nxt n i) - 1)
  have s3 := spn_iff (n := n) (y := y) (i := nxt n i) (s := y (nxt n i))
  have s4 := spn_iff (n := n) (y := y) (i := nxt n i) (s := y (nxt n i) - 1)
  unfold lev
  by_cases u1 : y i < y (nxt n i)
  · have el : ls n y i = y (nxt n i) - 1 := by unfold ls; rw [if_pos u1]
    rw [el] at a sl ⊢
    rw [if_pos u1]
    by_cases u2 : y (nxt n i) < y (nxt n (nxt n i))
    · have ef : fs n y (nxt n i) = y (nxt n i) := by unfold fs; rw [if_pos u2]
      rw [ef] at b ⊢
      rw [if_neg (by rw [s4]; omega)] at a
      rw [if_neg (by rw [s1]; omega)] at b
      rw [if_pos u2]
      grind
    · have ef : fs n y (nxt n i) = y (nxt n i) - 1 := by unfold fs; rw [if_neg u2]
      rw [ef] at b sf ⊢
      have d' := d _ sl sf
      rw [if_neg u2]
      unfold dir at a b
      rw [if_neg u2] at a
      rw [if_pos u1] at b
      by_cases o : pos n x y i (((y (nxt n i) - 1 : Int) : Rat) + 1 / 2) < pos n x y (nxt n i) (((y (nxt n i) - 1 : Int) : Rat) + 1 / 2)
      · rw [if_neg (by grind)] at a
        rw [if_pos ⟨sl, rfl, o⟩] at b
        grind
      · rw [if_pos ⟨sf, eq.symm, by grind⟩] at a
        rw [if_neg (by grind)] at b
        grind
  · have el : ls n y i = y (nxt n i) := by unfold ls; rw [if_neg u1]
    rw [el] at a sl ⊢
    rw [if_neg u1]
    by_cases u2 : y (nxt n i) < y (nxt n (nxt n i))
    · have ef : fs n y (nxt n i) = y (nxt n i) := by unfold fs; rw [if_pos u2]
      rw [ef] at b sf ⊢
      have d' := d _ sl sf
      rw [if_pos u2]
      unfold dir at a b
      rw [if_pos u2] at a
      rw [if_neg u1] at b
      by_cases o : pos n x y i ((y (nxt n i) : Rat) + 1 / 2) < pos n x y (nxt n i) ((y (nxt n i) : Rat) + 1 / 2)
      · rw [if_neg (by grind)] at a
        rw [if_pos ⟨sl, rfl, o⟩] at b
        grind
      · rw [if_pos ⟨sf, eq.symm, by grind⟩] at a
        rw [if_neg (by grind)] at b
        grind
    · have ef : fs n y (nxt n i) = y (nxt n i) - 1 := by unfold fs; rw [if_neg u2]
      rw [ef] at b ⊢
      rw [if_neg (by rw [s3]; omega)] at a
      rw [if_neg (by rw [s2]; omega)] at b
      rw [if_neg u2]
      grind
theorem lev_side (S : Simple n x y) {i : Nat} (hi : i < n) : ∀ (k : Nat) (s : Int), spn n y i s → spn n y i (s + k) → lev n x y i s = lev n x y i (s + k)
  | 0, s, _, _ => by simp
  | k + 1, s, h1, h2 => by
    have h3 : spn n y i (s + k) := by rw [spn_iff] at *; omega
    rw [lev_side S hi k s h1 h3]
    have := S.lev_along (t := s + k + 1) hi (by rw [show s + k + 1 - 1 = s + k from by omega]; exact h3) (by rw [show s + k + 1 = s + ((k + 1 : Nat) : Int) from by omega]; exact h2)
    rw [show s + k + 1 - 1 = s + k from by omega, show s + k + 1 = s + ((k + 1 : Nat) : Int) from by omega] at this
    exact this
theorem lev_one (S : Simple n x y) {i : Nat} (hi : i < n) {s t : Int} (h1 : spn n y i s) (h2 : spn n y i t) : lev n x y i s = lev n x y i t := by
  by_cases h : s ≤ t
  · have := S.lev_side hi (t - s).toNat s h1 (by rw [show s + ((t - s).toNat : Int) = t from by omega]; exact h2)
    rwa [show s + ((t - s).toNat : Int) = t from by omega] at this
  · have := S.lev_side hi (s - t).toNat t h2 (by rw [show t + ((s - t).toNat : Int) = s from by omega]; exact h1)
    rw [show t + ((s - t).toNat : Int) = s from by omega] at this
    exact this.symm
/-- The level is the same for all sides, everywhere. -/
theorem lev_all (S : Simple n x y) : ∀ {i : Nat}, i < n → ∀ {s : Int}, spn n y i s → lev n x y i s = lev n x y 0 (fs n y 0)
  | 0, hi, s, hs => S.lev_one hi hs (S.spn_fs hi)
  | i + 1, hi, s, hs => by
    have hi' : i < n := by omega
    have e : nxt n i = i + 1 := by rw [nxt_val hi', if_neg (by omega)]
    have h := S.lev_turn hi'
    rw [e, lev_all S hi' (S.spn_ls hi')] at h
    rw [h]
    exact S.lev_one hi hs (S.spn_fs hi)
end Simple
/-- The sum of directions, and of places times directions. -/
def dSum (l : List (Rat × Rat)) : Rat := (l.map fun p => p.2).sum
def pSum (l : List (Rat × Rat)) : Rat := (l.map fun p => p.1 * p.2).sum
theorem dSum_cons (p : Rat × Rat) (l : List (Rat × Rat)) : dSum (p :: l) = p.2 + dSum l := by unfold dSum; rw [List.map_cons, List.sum_cons]
theorem pSum_cons (p : Rat × Rat) (l : List (Rat × Rat)) : pSum (p :: l) = p.1 * p.2 + pSum l := by unfold pSum; rw [List.map_cons, List.sum_cons]
theorem dSum_append (a b : List (Rat × Rat)) : dSum (a ++ b) = dSum a + dSum b := by
  induction a with
  | nil => have : dSum [] = 0 := rfl
           rw [List.nil_append, this]; grind
  | cons p a ih => rw [List.cons_append, dSum_cons, dSum_cons, ih]; grind
/-- Directions alternate. -/
def alt (d : Rat) : List (Rat × Rat) → Prop
  | [] => True
  | p :: l => p.2 = d ∧ alt (-d) l
theorem alt_neg {d : Rat} (hd : d = 1 ∨ d = -1) : ∀ (l : List (Rat × Rat)), l.Pairwise (fun p q => p.1 < q.1) → alt d l → dSum l = 0 → (l = [] ∨ d * pSum l < 0)
  | [], _, _, _ => Or.inl rfl
  | [p], _, h, hs => by
    simp only [alt] at h
    rw [dSum_cons] at hs
    simp [dSum] at hs
    rcases hd with rfl | rfl <;> grind
  | p :: q :: l, hp, h, hs => by
    right
    simp only [alt] at h
    obtain ⟨h1, h2, h3⟩ := h
    rw [show - -d = d by grind] at h3
    rw [dSum_cons, dSum_cons] at hs
    rw [List.pairwise_cons, List.pairwise_cons] at hp
    obtain ⟨hp1, hp2, hp3⟩ := hp
    have hpq := hp1 q (by simp)
    rw [pSum_cons, pSum_cons, h1, h2]
    rcases alt_neg hd l hp3 h3 (by grind) with rfl | ih
    · simp only [pSum, List.map_nil, List.sum_nil]
      rcases hd with rfl | rfl <;> grind
    · rcases hd with rfl | rfl <;> grind
/-- Sides in order whose levels are the same alternate. -/
theorem alt_of {m : Rat} (hm : m = 0 ∨ m = -1) : ∀ (l : List (Rat × Rat)) (s : Rat), (s = m ∨ s = m + 1) → (∀ p ∈ l, p.2 = 1 ∨ p.2 = -1) →
    (∀ a p b, l = a ++ p :: b → s + dSum a = if p.2 = 1 then m else m + 1) → alt (if s = m then 1 else -1) l
  | [], _, _, _, _ => trivial
  | p :: l, s, hs, hd, h => by
    have h0 := h [] p l rfl
    simp only [dSum, List.map_nil, List.sum_nil] at h0
    have hp := hd p (by simp)
    have e : p.2 = if s = m then 1 else -1 := by grind
    refine ⟨e, ?_⟩
    have := alt_of hm l (s + p.2) (by grind) (fun q hq => hd q (by simp [hq])) (fun a q b hl => by
      have := h (p :: a) q b (by rw [hl]; rfl)
      rw [dSum_cons] at this
      grind)
    rw [show (if s + p.2 = m then (1 : Rat) else -1) = - (if s = m then 1 else -1) by grind] at this
    exact this
/-- Sides whose levels are the same: their sum of places times directions has a sign. -/
theorem strip_sorted {m : Rat} (l : List (Rat × Rat)) (hl : l ≠ []) (hp : l.Pairwise (fun p q => p.1 < q.1)) (hd : ∀ p ∈ l, p.2 = 1 ∨ p.2 = -1)
    (h : ∀ a p b, l = a ++ p :: b → dSum a = if p.2 = 1 then m else m + 1) (h0 : dSum l = 0) : (m = 0 ∧ pSum l < 0) ∨ (m = -1 ∧ 0 < pSum l) := by
  obtain ⟨p, r, rfl⟩ := List.exists_cons_of_ne_nil hl
  have e := h [] p r rfl
  simp only [dSum, List.map_nil, List.sum_nil] at e
  have hm : m = 0 ∨ m = -1 := by grind
  have := alt_of hm (p :: r) 0 (by grind) hd (fun a q b hh => by rw [← h a q b hh]; grind)
  have hz := alt_neg (d := if (0 : Rat) = m then 1 else -1) (by grind) _ hp this h0
  rcases hz with hz | hz
  · cases hz
  · rcases hm with rfl | rfl
    · left
      rw [if_pos rfl] at hz
      exact ⟨rfl, by clear h hd; grind⟩
    · right
      rw [if_neg (by grind)] at hz
      exact ⟨rfl, by clear h hd; grind⟩
/-- Left of a place. -/
def lSum (a : Rat) (l : List (Rat × Rat)) : Rat := (l.map fun p => if p.1 < a then p.2 else 0).sum
theorem lSum_cons (a : Rat) (p : Rat × Rat) (l : List (Rat × Rat)) : lSum a (p :: l) = (if p.1 < a then p.2 else 0) + lSum a l := by unfold lSum; rw [List.map_cons, List.sum_cons]
theorem lSum_append (c : Rat) (a b : List (Rat × Rat)) : lSum c (a ++ b) = lSum c a + lSum c b := by
  induction a with
  | nil => have : lSum c [] = 0 := rfl
           rw [List.nil_append, this]; grind
  | cons p a ih => rw [List.cons_append, lSum_cons, lSum_cons, ih]; grind
theorem lSum_all {c : Rat} {l : List (Rat × Rat)} (h : ∀ p ∈ l, p.1 < c) : lSum c l = dSum l := by
  induction l with
  | nil => rfl
  | cons p l ih => rw [lSum_cons, dSum_cons, ih (fun q hq => h q (by simp [hq])), if_pos (h p (by simp))]
theorem lSum_none {c : Rat} {l : List (Rat × Rat)} (h : ∀ p ∈ l, ¬ p.1 < c) : lSum c l = 0 := by
  induction l with
  | nil => rfl
  | cons p l ih => rw [lSum_cons, ih (fun q hq => h q (by simp [hq])), if_neg (h p (by simp))]; grind
theorem sum_perm {l r : List Rat} (h : l.Perm r) : l.sum = r.sum := by
  induction h with
  | nil => rfl
  | cons p _ ih => rw [List.sum_cons, List.sum_cons, ih]
  | swap p q l => simp only [List.sum_cons]; grind
  | trans _ _ h1 h2 => rw [h1, h2]
theorem strip_any {m : Rat} (l : List (Rat × Rat)) (hl : l ≠ []) (hn : l.Pairwise (fun p q => p.1 ≠ q.1)) (hd : ∀ p ∈ l, p.2 = 1 ∨ p.2 = -1)
    (h : ∀ p ∈ l, lSum p.1 l = if p.2 = 1 then m else m + 1) (h0 : dSum l = 0) : (m = 0 ∧ pSum l < 0) ∨ (m = -1 ∧ 0 < pSum l) := by
  have hperm := List.mergeSort_perm l (fun p q => decide (p.1 ≤ q.1))
  have hs := List.pairwise_mergeSort (le := fun (p q : Rat × Rat) => decide (p.1 ≤ q.1)) (by grind) (by grind) l
  generalize List.mergeSort l (fun p q => decide (p.1 ≤ q.1)) = r at *
  have hn' : r.Pairwise (fun p q => p.1 ≠ q.1) := (hperm.pairwise_iff (fun {p q} h e => h e.symm)).2 hn
  have hlt : r.Pairwise (fun p q => p.1 < q.1) := by
    refine (hs.and hn').imp ?_
    intro p q ⟨h1, h2⟩
    simp at h1
    grind
  have e1 : ∀ c, lSum c r = lSum c l := fun c => sum_perm (hperm.map _)
  have e2 : dSum r = dSum l := sum_perm (hperm.map _)
  have e3 : pSum r = pSum l := sum_perm (hperm.map _)
  rw [← e3]
  refine strip_sorted r ?_ hlt (fun p hp => hd p (hperm.mem_iff.1 hp)) ?_ (by rw [e2, h0])
  · rintro rfl; exact hl hperm.nil_eq.symm
  · intro a p b hr
    have hp := h p (hperm.mem_iff.1 (by rw [hr]; simp))
    rw [← e1, hr, lSum_append] at hp
    rw [hr, List.pairwise_append] at hlt
    obtain ⟨_, g2, g3⟩ := hlt
    rw [lSum_all (fun q hq => g3 q hq p (by simp)), lSum_none (fun q hq => by
      rcases List.mem_cons.1 hq with rfl | hq
      · grind
      · have := (List.pairwise_cons.1 g2).1 q hq; grind)] at hp
    grind
section
variable (n : Nat) (x y : Nat → Int)
/-- The sides that go through a strip: their places in the middle of it, and their directions. -/
def cut (s : Int) : Nat → List (Rat × Rat)
  | 0 => []
  | k + 1 => if spn n y k s then (pos n x y k ((s : Rat) + 1 / 2), dir n y k) :: cut s k else cut s k
/-- Twice what a side gives to the area, in a strip. -/
def tmF (s : Int) (j : Nat) : Rat := if spn n y j s then dir n y j * pos n x y j ((s : Rat) + 1 / 2) else 0
end
variable {n : Nat} {x y : Nat → Int}
theorem cut_succ (s : Int) (k : Nat) : cut n x y s (k + 1) = if spn n y k s then (pos n x y k ((s : Rat) + 1 / 2), dir n y k) :: cut n x y s k else cut n x y s k := rfl
theorem cut_mem {s : Int} {p : Rat × Rat} : ∀ {k : Nat}, p ∈ cut n x y s k ↔ ∃ j, j < k ∧ spn n y j s ∧ p = (pos n x y j ((s : Rat) + 1 / 2), dir n y j)
  | 0 => by simp [cut]
  | k + 1 => by
    rw [cut_succ]
    by_cases h : spn n y k s
    · rw [if_pos h, List.mem_cons, cut_mem]
      constructor
      · rintro (rfl | ⟨j, h1, h2, h3⟩)
        · exact ⟨k, by omega, h, rfl⟩
        · exact ⟨j, by omega, h2, h3⟩
      · rintro ⟨j, h1, h2, h3⟩
        by_cases e : j = k
        · subst e; left; exact h3
        · right; exact ⟨j, by omega, h2, h3⟩
    · rw [if_neg h, cut_mem]
      constructor
      · rintro ⟨j, h1, h2, h3⟩; exact ⟨j, by omega, h2, h3⟩
      · rintro ⟨j, h1, h2, h3⟩
        refine ⟨j, ?_, h2, h3⟩
        have : j ≠ k := by rintro rfl; exact h h2
        omega
theorem cut_lSum (i : Nat) (s : Int) : ∀ k, lSum (pos n x y i ((s : Rat) + 1 / 2)) (cut n x y s k) = sumQ (tmW n x y i s) k
  | 0 => rfl
  | k + 1 => by
    rw [sumQ_succ, ← cut_lSum i s k]
    rw [cut_succ]
    unfold tmW
    by_cases h : spn n y k s
    · rw [if_pos h, lSum_cons]
      simp only [h, true_and]
      grind
    · rw [if_neg h, if_neg (by simp [h])]; grind
theorem cut_pSum (s : Int) : ∀ k, pSum (cut n x y s k) = sumQ (tmF n x y s) k
  | 0 => rfl
  | k + 1 => by
    rw [sumQ_succ, ← cut_pSum s k]
    rw [cut_succ]
    unfold tmF
    by_cases h : spn n y k s
    · rw [if_pos h, if_pos h, pSum_cons]; grind
    · rw [if_neg h, if_neg h]; grind
theorem cut_dSum (s : Int) : ∀ k, dSum (cut n x y s k) = sumQ (fun j => if spn n y j s then dir n y j else 0) k
  | 0 => rfl
  | k + 1 => by
    rw [sumQ_succ, ← cut_dSum s k]
    rw [cut_succ]
    by_cases h : spn n y k s
    · rw [if_pos h, if_pos h, dSum_cons]; grind
    · rw [if_neg h, if_neg h]; grind
namespace Simple
/-- As many sides go up through a strip as go down. -/
theorem dir_sum (S : Simple n x y) (s : Int) : sumQ (fun j => if spn n y j s then dir n y j else 0) n = 0 := by
  have h : ∀ j, j < n → (if spn n y j s then dir n y j else 0) = (if s + 1 ≤ y (nxt n j) then (1 : Rat) else 0) - (if s + 1 ≤ y j then (1 : Rat) else 0) := by
    intro j hj
    have := S.y_ne hj
    have := spn_iff (n := n) (y := y) (i := j) (s := s)
    unfold dir
    grind
  have h2 := sumQ_sub (fun j => if s + 1 ≤ y (nxt n j) then (1 : Rat) else 0) (fun j => if s + 1 ≤ y j then (1 : Rat) else 0) n
  have h3 := sumQ_next (fun j => if s + 1 ≤ y j then (1 : Rat) else 0) (n := n) (by have := S.three; omega)
  rw [sumQ_congr h]
  unfold nxt at *
  rw [h2, h3]
  grind
theorem dir_one (i : Nat) : dir n y i = 1 ∨ dir n y i = -1 := by unfold dir; split <;> simp
theorem cut_apart (S : Simple n x y) (s : Int) : ∀ k, k ≤ n → (cut n x y s k).Pairwise (fun p q => p.1 ≠ q.1)
  | 0, _ => List.Pairwise.nil
  | k + 1, hk => by
    rw [cut_succ]
    by_cases h : spn n y k s
    · rw [if_pos h, List.pairwise_cons]
      refine ⟨?_,  cut_apart S s k (by omega)⟩
      intro q hq
      obtain ⟨j, h1, h2, rfl⟩ := cut_mem.1 hq
      exact S.apart (by omega) (by omega) (by omega) h h2 (by grind) (by grind)
    · rw [if_neg h]; exact cut_apart S s k (by omega)
/-- In each strip that a side goes through the sum of places times directions has the sign of the level. -/
theorem strip (S : Simple n x y) (s : Int) (hs : ∃ i, i < n ∧ spn n y i s) :
    (lev n x y 0 (fs n y 0) = 0 ∧ sumQ (tmF n x y s) n < 0) ∨ (lev n x y 0 (fs n y 0) = -1 ∧ 0 < sumQ (tmF n x y s) n) := by
  rw [← cut_pSum]
  refine strip_any (cut n x y s n) ?_ (S.cut_apart s n (by omega)) ?_ ?_ (by rw [cut_dSum, S.dir_sum])
  · obtain ⟨i, hi, h⟩ := hs
    intro e
    have := cut_mem (x := x).2 ⟨i, hi, h, rfl⟩
    rw [e] at this
    cases this
  · intro p hp
    obtain ⟨j, h1, h2, rfl⟩ := cut_mem.1 hp
    exact dir_one j
  · intro p hp
    obtain ⟨j, h1, h2, rfl⟩ := cut_mem.1 hp
    have := S.lev_all h1 h2
    simp only
    rw [cut_lSum]
    generalize lev n x y 0 (fs n y 0) = m at *
    unfold lev sumW at this
    unfold dir
    grind
end Simple
variable {n : Nat} {x y : Nat → Int}
/-- A height, or the end of a side that is nearest to it. -/
def clampH (a b t : Int) : Int := max (min a b) (min t (max a b))
def primU (n : Nat) (x y : Nat → Int) (j : Nat) (t : Int) : Rat :=
  (x j : Rat) * ((clampH (y j) (y (nxt n j)) t : Rat) - y j) + slo n x y j * (((clampH (y j) (y (nxt n j)) t : Rat) - y j) * ((clampH (y j) (y (nxt n j)) t : Rat) - y j)) / 2
namespace Simple
theorem prim_step (S : Simple n x y) {j : Nat} (hj : j < n) (t : Int) : tmF n x y t j = dir n y j * primU n x y j (t + 1) - dir n y j * primU n x y j t := by
  have hne := S.y_ne hj
  have hs := spn_iff (n := n) (y := y) (i := j) (s := t)
  unfold tmF
  by_cases h : spn n y j t
  · rw [if_pos h]
    have e1 : clampH (y j) (y (nxt n j)) t = t := by unfold clampH; rw [hs] at h; omega
    have e2 : clampH (y j) (y (nxt n j)) (t + 1) = t + 1 := by unfold clampH; rw [hs] at h; omega
    unfold primU pos
    rw [e1, e2, Rat.intCast_add]
    grind
  · rw [if_neg h]
    have e : clampH (y j) (y (nxt n j)) t = clampH (y j) (y (nxt n j)) (t + 1) := by unfold clampH; rw [hs] at h; omega
    unfold primU
    rw [e]; grind
theorem side_sum (S : Simple n x y) {j : Nat} (hj : j < n) (lo : Int) (N : Nat) (h1 : lo ≤ y j ∧ y j ≤ lo + N) (h2 : lo ≤ y (nxt n j) ∧ y (nxt n j) ≤ lo + N) :
    sumQ (fun s => tmF n x y (lo + s) j) N = ((x j : Rat) + x (nxt n j)) * ((y (nxt n j) : Rat) - y j) / 2 := by
  have hm := S.slo_mul hj
  have hne := S.y_ne hj
  have ht := sumQ_tele (fun s => dir n y j * primU n x y j (lo + s)) N
  rw [sumQ_congr (g := fun s => dir n y j * primU n x y j (lo + (s + 1 : Nat)) - dir n y j * primU n x y j (lo + s)) (fun s _ => by rw [S.prim_step hj, show lo + ((s + 1 : Nat) : Int) = lo + s + 1 from by omega])]
  rw [ht]
  unfold primU dir
  by_cases up : y j < y (nxt n j)
  · rw [if_pos up, show clampH (y j) (y (nxt n j)) (lo + N) = y (nxt n j) from by unfold clampH; omega, show clampH (y j) (y (nxt n j)) (lo + (0 : Nat)) = y j from by unfold clampH; omega]
    generalize slo n x y j = m at *
    grind
  · rw [if_neg up, show clampH (y j) (y (nxt n j)) (lo + N) = y j from by unfold clampH; omega, show clampH (y j) (y (nxt n j)) (lo + (0 : Nat)) = y (nxt n j) from by unfold clampH; omega]
    generalize slo n x y j = m at *
    grind
/-- The sum over the sides is that over the strips. -/
theorem area_sum (S : Simple n x y) (lo : Int) (N : Nat) (h : ∀ j, j < n → lo ≤ y j ∧ y j ≤ lo + N) :
    sumQ (fun j => ((x j : Rat) + x (nxt n j)) * ((y (nxt n j) : Rat) - y j) / 2) n = sumQ (fun (s : Nat) => sumQ (tmF n x y (lo + s)) n) N := by
  have := sumQ_swap (fun j s => tmF n x y (lo + s) j) n N
  rw [show (fun (s : Nat) => sumQ (tmF n x y (lo + s)) n) = fun (s : Nat) => sumQ (fun j => tmF n x y (lo + s) j) n from rfl]
  rw [this]
  exact sumQ_congr (fun j hj => (S.side_sum hj lo N (h j hj) (h _ (nxt_lt hj))).symm)
theorem area_ne (S : Simple n x y) (lo : Int) (N : Nat) (h : ∀ j, j < n → lo ≤ y j ∧ y j ≤ lo + N) :
    sumQ (fun j => ((x j : Rat) + x (nxt n j)) * ((y (nxt n j) : Rat) - y j) / 2) n ≠ 0 := by
  rw [S.area_sum lo N h]
  have h0 : 0 < n := by have := S.three; omega
  have hf := S.spn_fs h0
  have b1 := h 0 h0
  have b2 := h _ (nxt_lt h0)
  have hn : ∀ s : Int, ¬ (∃ i, i < n ∧ spn n y i s) → sumQ (tmF n x y s) n = 0 := by
    intro s hs
    rw [sumQ_congr (g := fun _ => 0), sumQ_zero]
    intro j hj
    unfold tmF
    rw [if_neg (fun e => hs ⟨j, hj, e⟩)]
  have hk : ∃ k : Nat, k < N ∧ fs n y 0 = lo + k := by
    rw [spn_iff] at hf
    refine ⟨(fs n y 0 - lo).toNat, by omega, by omega⟩
  obtain ⟨k, hk, ek⟩ := hk
  rcases S.strip _ ⟨0, h0, hf⟩ with ⟨hm, hneg⟩ | ⟨hm, hpos⟩
  · have : ∀ s, s < N → 0 ≤ - sumQ (tmF n x y (lo + s)) n := by
      intro s _
      by_cases e : ∃ i, i < n ∧ spn n y i (lo + s)
      · rcases S.strip _ e with ⟨_, h⟩ | ⟨h, _⟩
        · grind
        · grind
      · rw [hn _ e]; grind
    have hp := sumQ_pos (k := k) this hk (by rw [← ek]; grind)
    rw [sumQ_neg (fun (s : Nat) => sumQ (tmF n x y (lo + s)) n)] at hp
    grind
  · have : ∀ s, s < N → 0 ≤ sumQ (tmF n x y (lo + s)) n := by
      intro s _
      by_cases e : ∃ i, i < n ∧ spn n y i (lo + s)
      · rcases S.strip _ e with ⟨h, _⟩ | ⟨_, h⟩
        · grind
        · grind
      · rw [hn _ e]; grind
    have hp := sumQ_pos (f := fun (s : Nat) => sumQ (tmF n x y (lo + s)) n) (k := k) this hk (by rw [← ek]; grind)
    grind
end Simple
open Geo
theorem btw_of {a b c : Int} (h : 0 ≤ (b - a) * (c - b)) : btwB a b c = true := by
  have h1 : ¬ (b < a ∧ b < c) := fun ⟨h1, h2⟩ => by
    have := Int.mul_neg_of_neg_of_pos (a := b - a) (b := c - b) (by omega) (by omega); omega
  have h2 : ¬ (a < b ∧ c < b) := fun ⟨h1, h2⟩ => by
    have := Int.mul_neg_of_pos_of_neg (a := b - a) (b := c - b) (by omega) (by omega); omega
  unfold btwB
  rw [Bool.and_eq_true, decide_eq_true_iff, decide_eq_true_iff]
  omega
theorem opp_of {s t : Int} (h : s * t < 0) : (s < 0 ∧ 0 < t) ∨ (0 < s ∧ t < 0) := by
  rcases Int.lt_trichotomy s 0 with h1 | h1 | h1
  · left; refine ⟨h1, ?_⟩
    rcases Int.lt_or_le 0 t with h2 | h2
    · exact h2
    · have := Int.mul_nonneg_of_nonpos_of_nonpos (a := s) (b := t) (by omega) h2; omega
  · subst h1; omega
  · right; refine ⟨h1, ?_⟩
    rcases Int.lt_or_le t 0 with h2 | h2
    · exact h2
    · have := Int.mul_nonneg (a := s) (b := t) (by omega) h2; omega
theorem sq_nonneg (a : Rat) : 0 ≤ a * a := by
  rcases rat_cases a 0 with h | h
  · have := Rat.mul_nonneg (a := -a) (b := -a) (by grind) (by grind); grind
  · exact Rat.mul_nonneg h h
/-- Points, leaning over so that no two heights are equal. -/
def px (P : Nat → Pt) (i : Nat) : Int := (P i).1
def py (P : Nat → Pt) (i : Nat) : Int := 401 * (P i).2 + (P i).1
/-- Sides meet at corners only, as the program has it. -/
structure Free (n : Nat) (P : Nat → Pt) : Prop where
  three : 3 ≤ n
  bd : ∀ i, i < n → (-200 ≤ (P i).1 ∧ (P i).1 ≤ 200) ∧ (-200 ≤ (P i).2 ∧ (P i).2 ≤ 200)
  inj : ∀ i j, i < n → j < n → P i = P j → i = j
  free : ∀ i k, i < n → k < n → badB (P i, P (nxt n i)) (P k, P (nxt n k)) = false
variable {n : Nat} {P : Nat → Pt}
namespace Free
theorem y_inj (F : Free n P) {i j : Nat} (hi : i < n) (hj : j < n) (h : py P i = py P j) : i = j := by
  have b1 := F.bd i hi
  have b2 := F.bd j hj
  unfold py at h
  exact F.inj i j hi hj (Prod.ext (by omega) (by omega))
theorem y_ne (F : Free n P) {i : Nat} (hi : i < n) : py P (nxt n i) ≠ py P i := fun e => nxt_ne (by have := F.three; omega) hi (F.y_inj (nxt_lt hi) hi e)
theorem dy_ne (F : Free n P) {i : Nat} (hi : i < n) : ((py P (nxt n i) : Rat) - py P i) ≠ 0 := fun e => F.y_ne hi (cast_inj (by grind))
theorem slo_mul (F : Free n P) {i : Nat} (hi : i < n) : slo n (px P) (py P) i * ((py P (nxt n i) : Rat) - py P i) = (px P (nxt n i) : Rat) - px P i := by
  unfold slo
  exact Rat.div_mul_cancel (F.dy_ne hi)
theorem pos_at (i : Nat) : pos n (px P) (py P) i (py P i) = px P i := by unfold pos; grind
theorem pos_nxt (F : Free n P) {i : Nat} (hi : i < n) : pos n (px P) (py P) i (py P (nxt n i)) = px P (nxt n i) := by
  have := F.slo_mul hi
  unfold pos; grind
theorem turn_pos (F : Free n P) {i v : Nat} (hi : i < n) : (turn (P i) (P (nxt n i)) (P v) : Rat) * 401 = ((py P (nxt n i) : Rat) - py P i) * (pos n (px P) (py P) i (py P v) - px P v) := by
  have h : (turn (P i) (P (nxt n i)) (P v)) * 401 = (px P (nxt n i) - px P i) * (py P v - py P i) - (py P (nxt n i) - py P i) * (px P v - px P i) := by
    unfold turn px py; grind
  have h' : ((turn (P i) (P (nxt n i)) (P v) * 401 : Int) : Rat) = ((px P (nxt n i) - px P i) * (py P v - py P i) - (py P (nxt n i) - py P i) * (px P v - px P i) : Int) := by rw [h]
  simp only [Rat.intCast_mul, Rat.intCast_sub] at h'
  have := F.slo_mul hi
  unfold pos
  have e : ((401 : Int) : Rat) = 401 := rfl
  rw [e] at h'
  rw [h', ← this]
  generalize slo n (px P) (py P) i = m
  grind
/-- No corner lies inside a side. -/
theorem inside (F : Free n P) {i v : Nat} (hi : i < n) (hv : v < n) (h : ((py P i : Rat) < py P v ∧ (py P v : Rat) < py P (nxt n i)) ∨ ((py P (nxt n i) : Rat) < py P v ∧ (py P v : Rat) < py P i)) :
    pos n (px P) (py P) i (py P v) ≠ px P v := by
  intro e
  have ht := F.turn_pos (v := v) hi
  rw [e] at ht
  have ht0 : turn (P i) (P (nxt n i)) (P v) = 0 := cast_inj (by grind)
  have hm := F.slo_mul hi
  have hprod : 0 ≤ ((py P v : Rat) - py P i) * (py P (nxt n i) - py P v) := by
    rcases h with ⟨h1, h2⟩ | ⟨h1, h2⟩
    · exact Rat.mul_nonneg (by grind) (by grind)
    · have := Rat.mul_nonneg (a := (py P i : Rat) - py P v) (b := (py P v : Rat) - py P (nxt n i)) (by grind) (by grind); grind
  have h1 : 0 ≤ ((px P v : Rat) - px P i) * (px P (nxt n i) - px P v) := by
    have := Rat.mul_nonneg (sq_nonneg (slo n (px P) (py P) i)) hprod
    unfold pos at e
    rw [show ((px P v : Rat) - px P i) * (px P (nxt n i) - px P v) = slo n (px P) (py P) i * slo n (px P) (py P) i * (((py P v : Rat) - py P i) * (py P (nxt n i) - py P v)) by
      generalize slo n (px P) (py P) i = m at *; grind]
    exact this
  have h2 : 0 ≤ (((py P v : Rat) - px P v) - (py P i - px P i)) * ((py P (nxt n i) - px P (nxt n i)) - (py P v - px P v)) := by
    have := Rat.mul_nonneg (sq_nonneg (1 - slo n (px P) (py P) i)) hprod
    unfold pos at e
    rw [show (((py P v : Rat) - px P v) - (py P i - px P i)) * ((py P (nxt n i) - px P (nxt n i)) - (py P v - px P v)) = (1 - slo n (px P) (py P) i) * (1 - slo n (px P) (py P) i) * (((py P v : Rat) - py P i) * (py P (nxt n i) - py P v)) by
      generalize slo n (px P) (py P) i = m at *; grind]
    exact this
  have h1' : 0 ≤ ((P v).1 - (P i).1) * ((P (nxt n i)).1 - (P v).1) := by
    have h1'' : ((0 : Int) : Rat) ≤ (((px P v - px P i) * (px P (nxt n i) - px P v) : Int) : Rat) := by
      rw [Rat.intCast_mul, Rat.intCast_sub, Rat.intCast_sub]; exact h1
    have : 0 ≤ (px P v - px P i) * (px P (nxt n i) - px P v) := by exact_mod_cast h1''
    exact this
  have h2' : 0 ≤ ((P v).2 - (P i).2) * ((P (nxt n i)).2 - (P v).2) := by
    have h2'' : ((0 : Int) : Rat) ≤ (((py P v - px P v - (py P i - px P i)) * ((py P (nxt n i) - px P (nxt n i)) - (py P v - px P v)) : Int) : Rat) := by
      simp only [Rat.intCast_mul, Rat.intCast_sub]; exact h2
    have h3 : 0 ≤ (py P v - px P v - (py P i - px P i)) * ((py P (nxt n i) - px P (nxt n i)) - (py P v - px P v)) := by exact_mod_cast h2''
    have h4 : (py P v - px P v - (py P i - px P i)) * ((py P (nxt n i) - px P (nxt n i)) - (py P v - px P v)) = 160801 * (((P v).2 - (P i).2) * ((P (nxt n i)).2 - (P v).2)) := by unfold px py; grind
    omega
  have ne1 : P v ≠ P i := fun e => by
    have : (py P v : Rat) = py P i := by unfold py; rw [e]
    grind
  have ne2 : P v ≠ P (nxt n i) := fun e => by
    have : (py P v : Rat) = py P (nxt n i) := by unfold py; rw [e]
    grind
  have hb := F.free i v hi hv
  unfold badB passB onB at hb
  dsimp only at hb
  rw [btw_of h1', btw_of h2', decide_eq_true ht0, decide_eq_true ne1, decide_eq_true ne2] at hb
  simp at hb
theorem parted (F : Free n P) {i j : Nat} {h : Rat} (hi : i < n) (hj : j < n) (he : pos n (px P) (py P) i h = pos n (px P) (py P) j h) (hs : slo n (px P) (py P) i ≠ slo n (px P) (py P) j)
    (hh : ((py P j : Rat) - h) * (py P (nxt n j) - h) < 0) : partB (P i) (P (nxt n i)) (P j) (P (nxt n j)) = true := by
  have t1 := F.turn_pos (v := j) hi
  have t2 := F.turn_pos (v := nxt n j) hi
  have l1 := Simple.lin (n := n) (x := px P) (y := py P) i j h (py P j)
  have l2 := Simple.lin (n := n) (x := px P) (y := py P) i j h (py P (nxt n j))
  rw [pos_at] at l1
  rw [F.pos_nxt hj] at l2
  have hd := F.dy_ne hi
  have key : ((turn (P i) (P (nxt n i)) (P j) * turn (P i) (P (nxt n i)) (P (nxt n j)) : Int) : Rat) < ((0 : Int) : Rat) := by
    rw [Rat.intCast_mul]
    have e : ((turn (P i) (P (nxt n i)) (P j) : Rat) * turn (P i) (P (nxt n i)) (P (nxt n j))) * 160801 = (((py P (nxt n i) : Rat) - py P i) * ((py P (nxt n i) : Rat) - py P i)) * (((slo n (px P) (py P) i - slo n (px P) (py P) j)) * ((slo n (px P) (py P) i - slo n (px P) (py P) j))) * (((py P j : Rat) - h) * (py P (nxt n j) - h)) := by
      generalize slo n (px P) (py P) i - slo n (px P) (py P) j = m at *
      rw [he] at l1 l2
      rw [show pos n (px P) (py P) i (py P j) - px P j = m * (py P j - h) by grind] at t1
      rw [show pos n (px P) (py P) i (py P (nxt n j)) - px P (nxt n j) = m * (py P (nxt n j) - h) by grind] at t2
      generalize (py P (nxt n i) : Rat) - py P i = d at *
      generalize (turn (P i) (P (nxt n i)) (P j) : Rat) = u at *
      generalize (turn (P i) (P (nxt n i)) (P (nxt n j)) : Rat) = v at *
      have : u * v * 160801 = (u * 401) * (v * 401) := by grind
      rw [this, t1, t2]; grind
    have p1 : 0 < (((py P (nxt n i) : Rat) - py P i) * ((py P (nxt n i) : Rat) - py P i)) := by
      have := sq_nonneg ((py P (nxt n i) : Rat) - py P i)
      have : ((py P (nxt n i) : Rat) - py P i) * ((py P (nxt n i) : Rat) - py P i) ≠ 0 := by grind
      grind
    have p2 : 0 < ((slo n (px P) (py P) i - slo n (px P) (py P) j)) * ((slo n (px P) (py P) i - slo n (px P) (py P) j)) := by
      have hm : slo n (px P) (py P) i - slo n (px P) (py P) j ≠ 0 := by grind
      generalize slo n (px P) (py P) i - slo n (px P) (py P) j = m at *
      have := sq_nonneg m
      have : m * m ≠ 0 := by grind
      grind
    have p3 := Rat.mul_pos (Rat.mul_pos p1 p2) (show 0 < - (((py P j : Rat) - h) * (py P (nxt n j) - h)) by grind)
    have e0 : ((0 : Int) : Rat) = 0 := rfl
    rw [e0]
    grind
  have key' : turn (P i) (P (nxt n i)) (P j) * turn (P i) (P (nxt n i)) (P (nxt n j)) < 0 := by exact_mod_cast key
  unfold partB
  rcases opp_of key' with ⟨a, b⟩ | ⟨a, b⟩ <;> simp [a, b]
end Free
open Geo
variable {n : Nat} {P : Nat → Pt}
namespace Free
/-- A height of a side is that of one of its ends, or strictly between both. -/
theorem ends {i : Nat} {h : Rat} (hw : wk n (py P) i h) : h = py P i ∨ h = py P (nxt n i) ∨ (((py P i : Rat) < h ∧ h < py P (nxt n i)) ∨ ((py P (nxt n i) : Rat) < h ∧ h < py P i)) := by
  unfold wk at hw
  grind
theorem pos_same {i j : Nat} {h : Rat} (he : pos n (px P) (py P) i h = pos n (px P) (py P) j h) (hs : slo n (px P) (py P) i = slo n (px P) (py P) j) (k : Rat) :
    pos n (px P) (py P) i k = pos n (px P) (py P) j k := by
  have := Simple.lin (n := n) (x := px P) (y := py P) i j h k
  grind
theorem nc (F : Free n P) {i j : Nat} {h : Rat} (hi : i < n) (hj : j < n) (hij : i ≠ j) (wi : wk n (py P) i h) (wj : wk n (py P) j h) (he : pos n (px P) (py P) i h = pos n (px P) (py P) j h) :
    (j = nxt n i ∧ h = py P j) ∨ (i = nxt n j ∧ h = py P i) := by
  have h3 := F.three
  have ki := nxt_lt hi
  have kj := nxt_lt hj
  have yi : ∀ {a b : Nat}, a < n → b < n → (py P a : Rat) = py P b → a = b := fun ha hb e => F.y_inj ha hb (cast_inj e)
  rcases ends wi with e | e | si
  · rcases ends wj with g | g | sj
    · exact absurd (yi hi hj (by grind)) hij
    · right; exact ⟨yi hi kj (by grind), e⟩
    · exfalso
      rw [e] at he sj
      rw [pos_at] at he
      exact F.inside hj hi sj he.symm
  · rcases ends wj with g | g | sj
    · left; exact ⟨yi hj ki (by grind), g⟩
    · exact absurd (nxt_inj hi hj (yi ki kj (by grind))) hij
    · exfalso
      rw [e] at he sj
      rw [F.pos_nxt hi] at he
      exact F.inside hj ki sj he.symm
  · rcases ends wj with g | g | sj
    · exfalso
      rw [g] at he si
      rw [pos_at] at he
      exact F.inside hi hj si he
    · exfalso
      rw [g] at he si
      rw [F.pos_nxt hj] at he
      exact F.inside hi kj si he
    · exfalso
      by_cases hs : slo n (px P) (py P) i = slo n (px P) (py P) j
      · have same := pos_same he hs
        have a1 : ¬ (((py P i : Rat) < py P j ∧ (py P j : Rat) < py P (nxt n i)) ∨ ((py P (nxt n i) : Rat) < py P j ∧ (py P j : Rat) < py P i)) := fun b => F.inside hi hj b (by rw [same, pos_at])
        have a2 : ¬ (((py P i : Rat) < py P (nxt n j) ∧ (py P (nxt n j) : Rat) < py P (nxt n i)) ∨ ((py P (nxt n i) : Rat) < py P (nxt n j) ∧ (py P (nxt n j) : Rat) < py P i)) := fun b => F.inside hi kj b (by rw [same, F.pos_nxt hj])
        have a3 : ¬ (((py P j : Rat) < py P i ∧ (py P i : Rat) < py P (nxt n j)) ∨ ((py P (nxt n j) : Rat) < py P i ∧ (py P i : Rat) < py P j)) := fun b => F.inside hj hi b (by rw [← same, pos_at])
        have a4 : ¬ (((py P j : Rat) < py P (nxt n i) ∧ (py P (nxt n i) : Rat) < py P (nxt n j)) ∨ ((py P (nxt n j) : Rat) < py P (nxt n i) ∧ (py P (nxt n i) : Rat) < py P j)) := fun b => F.inside hj ki b (by rw [← same, F.pos_nxt hi])
        have n1 : (py P i : Rat) ≠ py P j := fun e => hij (yi hi hj e)
        have n2 : (py P (nxt n i) : Rat) ≠ py P (nxt n j) := fun e => hij (nxt_inj hi hj (yi ki kj e))
        have n3 : ¬ ((py P i : Rat) = py P (nxt n j) ∧ (py P (nxt n i) : Rat) = py P j) := fun ⟨e, g⟩ => by
          have e' := yi hi kj e
          have g' := yi ki hj g
          have := nxt2_ne h3 hi
          rw [g'] at this
          exact this e'.symm
        generalize (py P i : Rat) = a at *
        generalize (py P j : Rat) = b at *
        generalize (py P (nxt n i) : Rat) = c at *
        generalize (py P (nxt n j) : Rat) = d at *
        clear same yi he wi wj
        rcases si with ⟨s1, s2⟩ | ⟨s1, s2⟩ <;> rcases sj with ⟨s3, s4⟩ | ⟨s3, s4⟩ <;> grind
      · have o : ∀ {a b : Rat}, (a < h ∧ h < b) ∨ (b < h ∧ h < a) → (a - h) * (b - h) < 0 := by
          intro a b s
          rcases s with ⟨s1, s2⟩ | ⟨s1, s2⟩
          · have := Rat.mul_pos (a := h - a) (b := b - h) (by grind) (by grind); grind
          · have := Rat.mul_pos (a := a - h) (b := h - b) (by grind) (by grind); grind
        have q1 := F.parted hi hj he hs (o sj)
        have q2 := F.parted hj hi he.symm (fun e => hs e.symm) (o si)
        have hb := F.free i j hi hj
        unfold badB at hb
        dsimp only at hb
        rw [q1, q2] at hb
        simp at hb
theorem simple (F : Free n P) : Simple n (px P) (py P) := ⟨F.three, fun _ _ hi hj h => F.y_inj hi hj h, fun _ _ _ hi hj hij wi wj he => F.nc hi hj hij wi wj he⟩
end Free
theorem sumQ_mul (c : Rat) (f : Nat → Rat) : ∀ n, sumQ (fun j => c * f j) n = c * sumQ f n
  | 0 => by rw [sumQ_nil, sumQ_nil]; grind
  | n + 1 => by rw [sumQ_succ, sumQ_succ, sumQ_mul c f n]; grind
theorem sumQ_cast (f : Nat → Int) : ∀ n, sumQ (fun j => (f j : Rat)) n = ((((List.range n).map f).sum : Int) : Rat)
  | 0 => rfl
  | n + 1 => by
    rw [sumQ_succ, sumQ_cast f n, List.range_succ, List.map_append, List.sum_append, Rat.intCast_add]
    simp
namespace Free
theorem area (F : Free n P) : ((List.range n).map fun j => turn (P j) (P (nxt n j)) (0, 0)).sum ≠ 0 := by
  intro h0
  have h1 := F.simple.area_ne (-90000) 180000 (fun j hj => by have := F.bd j hj; unfold py; omega)
  apply h1
  have n0 : 0 < n := by have := F.three; omega
  have e : ∀ j, j < n → ((px P j : Rat) + px P (nxt n j)) * ((py P (nxt n j) : Rat) - py P j) / 2
      = 401 / 2 * ((turn (P j) (P (nxt n j)) (0, 0) : Int) : Rat) + 1 / 2 * (((px P (nxt n j) * py P (nxt n j) : Int) : Rat) - ((px P j * py P j : Int) : Rat)) := by
    intro j _
    have g : (px P j + px P (nxt n j)) * (py P (nxt n j) - py P j) = 401 * turn (P j) (P (nxt n j)) (0, 0) + (px P (nxt n j) * py P (nxt n j) - px P j * py P j) := by
      unfold turn px py; grind
    have g' : (((px P j + px P (nxt n j)) * (py P (nxt n j) - py P j) : Int) : Rat) = ((401 * turn (P j) (P (nxt n j)) (0, 0) + (px P (nxt n j) * py P (nxt n j) - px P j * py P j) : Int) : Rat) := by rw [g]
    rw [Rat.intCast_mul, Rat.intCast_add, Rat.intCast_sub, Rat.intCast_add, Rat.intCast_sub, Rat.intCast_mul] at g'
    rw [g']
    have e4 : ((401 : Int) : Rat) = 401 := rfl
    rw [e4]
    grind
  have z := sumQ_next (fun j => ((px P j * py P j : Int) : Rat)) n0
  rw [sumQ_congr e, sumQ_add, sumQ_mul, sumQ_mul (1 / 2) (fun j => ((px P (nxt n j) * py P (nxt n j) : Int) : Rat) - ((px P j * py P j : Int) : Rat)), sumQ_sub (fun j => ((px P (nxt n j) * py P (nxt n j) : Int) : Rat)) (fun j => ((px P j * py P j : Int) : Rat)), sumQ_cast, h0]
  unfold nxt at *
  rw [z]
  have e0 : ((0 : Int) : Rat) = 0 := rfl
  rw [e0]
  grind
end Free
section
variable (n : Nat) (x y : Nat → Int)
/-- The sides that go through a strip, with a value for each. -/
def cutV (v : Nat → Rat) (s : Int) : Nat → List (Rat × Rat)
  | 0 => []
  | k + 1 => if spn n y k s then (v k, dir n y k) :: cutV v s k else cutV v s k
def tmV (v : Nat → Rat) (s : Int) (j : Nat) : Rat := if spn n y j s then dir n y j * v j else 0
/-- Three times the integral of the square of the place of a side, in a strip. -/
def sqv (s : Int) (j : Nat) : Rat := pos n x y j s * pos n x y j s + pos n x y j s * pos n x y j ((s : Rat) + 1) + pos n x y j ((s : Rat) + 1) * pos n x y j ((s : Rat) + 1)
end
variable {n : Nat} {x y : Nat → Int}
theorem cutV_succ (v : Nat → Rat) (s : Int) (k : Nat) : cutV n y v s (k + 1) = if spn n y k s then (v k, dir n y k) :: cutV n y v s k else cutV n y v s k := rfl
theorem cutV_mem {v : Nat → Rat} {s : Int} {p : Rat × Rat} : ∀ {k : Nat}, p ∈ cutV n y v s k ↔ ∃ j, j < k ∧ spn n y j s ∧ p = (v j, dir n y j)
  | 0 => by simp [cutV]
  | k + 1 => by
    rw [cutV_succ]
    by_cases h : spn n y k s
    · rw [if_pos h, List.mem_cons, cutV_mem]
      constructor
      · rintro (rfl | ⟨j, h1, h2, h3⟩)
        · exact ⟨k, by omega, h, rfl⟩
        · exact ⟨j, by omega, h2, h3⟩
      · rintro ⟨j, h1, h2, h3⟩
        by_cases e : j = k
        · subst e; left; exact h3
        · right; exact ⟨j, by omega, h2, h3⟩
    · rw [if_neg h, cutV_mem]
      constructor
      · rintro ⟨j, h1, h2, h3⟩; exact ⟨j, by omega, h2, h3⟩
      · rintro ⟨j, h1, h2, h3⟩
        refine ⟨j, ?_, h2, h3⟩
        have : j ≠ k := by rintro rfl; exact h h2
        omega
theorem cutV_pSum (v : Nat → Rat) (s : Int) : ∀ k, pSum (cutV n y v s k) = sumQ (tmV n y v s) k
  | 0 => rfl
  | k + 1 => by
    rw [sumQ_succ, ← cutV_pSum v s k]
    rw [cutV_succ]
    unfold tmV
    by_cases h : spn n y k s
    · rw [if_pos h, if_pos h, pSum_cons]; grind
    · rw [if_neg h, if_neg h]; grind
theorem cutV_dSum (v : Nat → Rat) (s : Int) : ∀ k, dSum (cutV n y v s k) = sumQ (fun j => if spn n y j s then dir n y j else 0) k
  | 0 => rfl
  | k + 1 => by
    rw [sumQ_succ, ← cutV_dSum v s k]
    rw [cutV_succ]
    by_cases h : spn n y k s
    · rw [if_pos h, if_pos h, dSum_cons]; grind
    · rw [if_neg h, if_neg h]; grind
theorem cutV_lSum (v : Nat → Rat) (i : Nat) (s : Int) : ∀ k, (∀ j, j < k → spn n y j s → (v j < v i ↔ pos n x y j ((s : Rat) + 1 / 2) < pos n x y i ((s : Rat) + 1 / 2))) → lSum (v i) (cutV n y v s k) = sumQ (tmW n x y i s) k
  | 0, _ => rfl
  | k + 1, hv => by
    rw [sumQ_succ, ← cutV_lSum v i s k (fun j hj => hv j (by omega))]
    rw [cutV_succ]
    unfold tmW
    by_cases h : spn n y k s
    · have := hv k (by omega) h
      rw [if_pos h, lSum_cons]
      simp only [h, true_and, this]
      grind
    · rw [if_neg h, if_neg (by simp [h])]; grind
namespace Simple
theorem cutV_apart (S : Simple n x y) (v : Nat → Rat) (s : Int) (hv : ∀ i j, i < n → j < n → spn n y i s → spn n y j s → (v j < v i ↔ pos n x y j ((s : Rat) + 1 / 2) < pos n x y i ((s : Rat) + 1 / 2))) : ∀ k, k ≤ n → (cutV n y v s k).Pairwise (fun p q => p.1 ≠ q.1)
  | 0, _ => List.Pairwise.nil
  | k + 1, hk => by
    rw [cutV_succ]
    by_cases h : spn n y k s
    · rw [if_pos h, List.pairwise_cons]
      refine ⟨?_, cutV_apart S v s hv k (by omega)⟩
      intro q hq
      obtain ⟨j, h1, h2, rfl⟩ := cutV_mem.1 hq
      have a := S.apart (h := (s : Rat) + 1 / 2) (by omega) (by omega) (show k ≠ j by omega) h h2 (by grind) (by grind)
      have b := hv k j (by omega) (by omega) h h2
      have c := hv j k (by omega) (by omega) h2 h
      grind
    · rw [if_neg h]; exact cutV_apart S v s hv k (by omega)
/-- In a strip, any values that are ordered as the sides are: their sum, with directions, has the sign of the level. -/
theorem stripV (S : Simple n x y) (v : Nat → Rat) (s : Int) (hv : ∀ i j, i < n → j < n → spn n y i s → spn n y j s → (v j < v i ↔ pos n x y j ((s : Rat) + 1 / 2) < pos n x y i ((s : Rat) + 1 / 2))) (hs : ∃ i, i < n ∧ spn n y i s) :
    (lev n x y 0 (fs n y 0) = 0 ∧ sumQ (tmV n y v s) n < 0) ∨ (lev n x y 0 (fs n y 0) = -1 ∧ 0 < sumQ (tmV n y v s) n) := by
  rw [← cutV_pSum]
  refine strip_any (cutV n y v s n) ?_ (S.cutV_apart v s hv n (by omega)) ?_ ?_ (by rw [cutV_dSum, S.dir_sum])
  · obtain ⟨i, hi, h⟩ := hs
    intro e
    have := cutV_mem (v := v).2 ⟨i, hi, h, rfl⟩
    rw [e] at this
    cases this
  · intro p hp
    obtain ⟨j, h1, h2, rfl⟩ := cutV_mem.1 hp
    exact dir_one j
  · intro p hp
    obtain ⟨j, h1, h2, rfl⟩ := cutV_mem.1 hp
    have := S.lev_all h1 h2
    simp only
    rw [cutV_lSum v j s n (fun k hk h3 => hv j k h1 hk h2 h3)]
    generalize lev n x y 0 (fs n y 0) = m at *
    unfold lev sumW at this
    unfold dir
    grind
theorem pos_nonneg (S : Simple n x y) (hx : ∀ i, i < n → 0 ≤ x i) {j : Nat} {h : Rat} (hj : j < n) (hw : wk n y j h) : 0 ≤ pos n x y j h := by
  have h1 : ((0 : Int) : Rat) ≤ (x j : Rat) := by exact_mod_cast hx j hj
  have h2 : ((0 : Int) : Rat) ≤ (x (nxt n j) : Rat) := by exact_mod_cast hx _ (nxt_lt hj)
  have e0 : ((0 : Int) : Rat) = 0 := rfl
  rw [e0] at h1 h2
  have hm := S.slo_mul hj
  have key : pos n x y j h * ((y (nxt n j) : Rat) - y j) = x j * ((y (nxt n j) : Rat) - h) + x (nxt n j) * (h - y j) := by
    unfold pos
    generalize slo n x y j = m at *
    grind
  rcases rat_cases (pos n x y j h) 0 with hn | hn
  · exfalso
    unfold wk at hw
    have hne := S.y_ne hj
    rcases hw with ⟨a, b⟩ | ⟨a, b⟩
    · have p1 := Rat.mul_nonneg h1 (show (0 : Rat) ≤ (y (nxt n j) : Rat) - h by grind)
      have p2 := Rat.mul_nonneg h2 (show (0 : Rat) ≤ h - (y j : Rat) by grind)
      have lt : (y j : Rat) < y (nxt n j) := by
        rcases rat_cases (y j : Rat) (y (nxt n j)) with e | e
        · exact e
        · exact absurd (cast_inj (by grind)) hne
      have p3 := Rat.mul_pos (show 0 < - pos n x y j h by grind) (show (0 : Rat) < (y (nxt n j) : Rat) - y j by grind)
      grind
    · have p1 := Rat.mul_nonneg h1 (show (0 : Rat) ≤ h - (y (nxt n j) : Rat) by grind)
      have p2 := Rat.mul_nonneg h2 (show (0 : Rat) ≤ (y j : Rat) - h by grind)
      have lt : (y (nxt n j) : Rat) < y j := by
        rcases rat_cases (y (nxt n j) : Rat) (y j) with e | e
        · exact e
        · exact absurd (cast_inj (by grind)) hne
      have p3 := Rat.mul_pos (show 0 < - pos n x y j h by grind) (show (0 : Rat) < (y j : Rat) - y (nxt n j) by grind)
      grind
  · exact hn
theorem sq_lt {p q a b : Rat} (hp : 0 ≤ p) (hq : 0 ≤ q) (h1 : p ≤ a) (h2 : q ≤ b) (h3 : p + q < a + b) : p * p + p * q + q * q < a * a + a * b + b * b := by
  have e1 := Rat.mul_nonneg (show 0 ≤ a - p by grind) hp
  have e2 := Rat.mul_nonneg (show 0 ≤ a - p by grind) hq
  have e3 := Rat.mul_nonneg (show 0 ≤ b - q by grind) hp
  have e4 := Rat.mul_nonneg (show 0 ≤ b - q by grind) hq
  have e5 := Rat.mul_nonneg (show 0 ≤ a - p by grind) (show 0 ≤ b - q by grind)
  have e6 := sq_nonneg (a - p)
  have e7 := sq_nonneg (b - q)
  have e8 := Rat.mul_pos (show 0 < (a - p) + (b - q) by grind) (show 0 < (a - p) + (b - q) by grind)
  grind
theorem sqv_order (S : Simple n x y) (hx : ∀ i, i < n → 0 ≤ x i) (s : Int) (i j : Nat) (hi : i < n) (hj : j < n) (si : spn n y i s) (sj : spn n y j s) :
    sqv n x y s j < sqv n x y s i ↔ pos n x y j ((s : Rat) + 1 / 2) < pos n x y i ((s : Rat) + 1 / 2) := by
  have half : ∀ {i j : Nat}, i < n → j < n → spn n y i s → spn n y j s → pos n x y j ((s : Rat) + 1 / 2) < pos n x y i ((s : Rat) + 1 / 2) → sqv n x y s j < sqv n x y s i := by
    intro i j hi hj si sj hlt
    have hij : i ≠ j := by rintro rfl; grind
    have o1 := S.order (e := s) hj hi (fun e => hij e.symm) sj si (Or.inl rfl)
    have o2 := S.order (e := (s : Rat) + 1) hj hi (fun e => hij e.symm) sj si (Or.inr rfl)
    have n1 := S.pos_nonneg hx hj (spn_wk sj (h := s) (by grind) (by grind))
    have n2 := S.pos_nonneg hx hj (spn_wk sj (h := (s : Rat) + 1) (by grind) (by grind))
    have m1 : pos n x y i ((s : Rat) + 1 / 2) + pos n x y i ((s : Rat) + 1 / 2) = pos n x y i s + pos n x y i ((s : Rat) + 1) := by unfold pos; grind
    have m2 : pos n x y j ((s : Rat) + 1 / 2) + pos n x y j ((s : Rat) + 1 / 2) = pos n x y j s + pos n x y j ((s : Rat) + 1) := by unfold pos; grind
    unfold sqv
    exact sq_lt n1 n2 (by grind) (by grind) (by grind)
  constructor
  · intro h
    rcases rat_cases (pos n x y j ((s : Rat) + 1 / 2)) (pos n x y i ((s : Rat) + 1 / 2)) with h2 | h2
    · exact h2
    · by_cases hij : i = j
      · subst hij; grind
      · have := S.apart (h := (s : Rat) + 1 / 2) hi hj hij si sj (by grind) (by grind)
        have := half hj hi sj si (by grind)
        grind
  · exact half hi hj si sj
end Simple
/-- The integral of three times the square of the place. -/
def primV (n : Nat) (x y : Nat → Int) (j : Nat) (t : Int) : Rat :=
  3 * ((x j : Rat) * x j) * ((clampH (y j) (y (nxt n j)) t : Rat) - y j) + 3 * (x j : Rat) * slo n x y j * (((clampH (y j) (y (nxt n j)) t : Rat) - y j) * ((clampH (y j) (y (nxt n j)) t : Rat) - y j))
    + slo n x y j * slo n x y j * (((clampH (y j) (y (nxt n j)) t : Rat) - y j) * ((clampH (y j) (y (nxt n j)) t : Rat) - y j) * ((clampH (y j) (y (nxt n j)) t : Rat) - y j))
namespace Simple
theorem primV_step (S : Simple n x y) {j : Nat} (hj : j < n) (t : Int) : tmV n y (sqv n x y t) t j = dir n y j * primV n x y j (t + 1) - dir n y j * primV n x y j t := by
  have hne := S.y_ne hj
  have hs := spn_iff (n := n) (y := y) (i := j) (s := t)
  unfold tmV
  by_cases h : spn n y j t
  · rw [if_pos h]
    have e1 : clampH (y j) (y (nxt n j)) t = t := by unfold clampH; rw [hs] at h; omega
    have e2 : clampH (y j) (y (nxt n j)) (t + 1) = t + 1 := by unfold clampH; rw [hs] at h; omega
    unfold primV sqv pos
    rw [e1, e2, Rat.intCast_add]
    grind
  · rw [if_neg h]
    have e : clampH (y j) (y (nxt n j)) t = clampH (y j) (y (nxt n j)) (t + 1) := by unfold clampH; rw [hs] at h; omega
    unfold primV
    rw [e]; grind
theorem sideV_sum (S : Simple n x y) {j : Nat} (hj : j < n) (lo : Int) (N : Nat) (h1 : lo ≤ y j ∧ y j ≤ lo + N) (h2 : lo ≤ y (nxt n j) ∧ y (nxt n j) ≤ lo + N) :
    sumQ (fun s => tmV n y (sqv n x y (lo + s)) (lo + s) j) N = ((x j : Rat) * x j + x j * x (nxt n j) + x (nxt n j) * x (nxt n j)) * ((y (nxt n j) : Rat) - y j) := by
  have hm := S.slo_mul hj
  have hne := S.y_ne hj
  have ht := sumQ_tele (fun s => dir n y j * primV n x y j (lo + s)) N
  rw [sumQ_congr (g := fun s => dir n y j * primV n x y j (lo + (s + 1 : Nat)) - dir n y j * primV n x y j (lo + s)) (fun s _ => by rw [S.primV_step hj, show lo + ((s + 1 : Nat) : Int) = lo + s + 1 from by omega])]
  rw [ht]
  unfold primV dir
  by_cases up : y j < y (nxt n j)
  · rw [if_pos up, show clampH (y j) (y (nxt n j)) (lo + N) = y (nxt n j) from by unfold clampH; omega, show clampH (y j) (y (nxt n j)) (lo + (0 : Nat)) = y j from by unfold clampH; omega]
    generalize slo n x y j = m at *
    have e : (x (nxt n j) : Rat) = x j + m * ((y (nxt n j) : Rat) - y j) := by grind
    rw [e]
    grind
  · rw [if_neg up, show clampH (y j) (y (nxt n j)) (lo + N) = y j from by unfold clampH; omega, show clampH (y j) (y (nxt n j)) (lo + (0 : Nat)) = y (nxt n j) from by unfold clampH; omega]
    generalize slo n x y j = m at *
    have e : (x (nxt n j) : Rat) = x j + m * ((y (nxt n j) : Rat) - y j) := by grind
    rw [e]
    grind
theorem moment_sum (S : Simple n x y) (lo : Int) (N : Nat) (h : ∀ j, j < n → lo ≤ y j ∧ y j ≤ lo + N) :
    sumQ (fun j => ((x j : Rat) * x j + x j * x (nxt n j) + x (nxt n j) * x (nxt n j)) * ((y (nxt n j) : Rat) - y j)) n = sumQ (fun (s : Nat) => sumQ (tmV n y (sqv n x y (lo + s)) (lo + s)) n) N := by
  have := sumQ_swap (fun j s => tmV n y (sqv n x y (lo + s)) (lo + s) j) n N
  rw [show (fun (s : Nat) => sumQ (tmV n y (sqv n x y (lo + s)) (lo + s)) n) = fun (s : Nat) => sumQ (fun j => tmV n y (sqv n x y (lo + s)) (lo + s) j) n from rfl]
  rw [this]
  exact sumQ_congr (fun j hj => (S.sideV_sum hj lo N (h j hj) (h _ (nxt_lt hj))).symm)
/-- A sum over strips has the sign that it has in each strip that a side goes through. -/
theorem strips_sign (S : Simple n x y) (lo : Int) (N : Nat) (h : ∀ j, j < n → lo ≤ y j ∧ y j ≤ lo + N) (f : Int → Rat) (hz : ∀ s, ¬ (∃ i, i < n ∧ spn n y i s) → f s = 0)
    (hf : ∀ s, (∃ i, i < n ∧ spn n y i s) → (lev n x y 0 (fs n y 0) = 0 ∧ f s < 0) ∨ (lev n x y 0 (fs n y 0) = -1 ∧ 0 < f s)) :
    (lev n x y 0 (fs n y 0) = 0 ∧ sumQ (fun (s : Nat) => f (lo + s)) N < 0) ∨ (lev n x y 0 (fs n y 0) = -1 ∧ 0 < sumQ (fun (s : Nat) => f (lo + s)) N) := by
  have h0 : 0 < n := by have := S.three; omega
  have hs := S.spn_fs h0
  have b1 := h 0 h0
  have b2 := h _ (nxt_lt h0)
  have hk : ∃ k : Nat, k < N ∧ fs n y 0 = lo + k := by
    rw [spn_iff] at hs
    refine ⟨(fs n y 0 - lo).toNat, by omega, by omega⟩
  obtain ⟨k, hk, ek⟩ := hk
  rcases hf _ ⟨0, h0, hs⟩ with ⟨hm, hneg⟩ | ⟨hm, hpos⟩
  · left
    refine ⟨hm, ?_⟩
    have : ∀ s, s < N → 0 ≤ - f (lo + (s : Nat)) := by
      intro s _
      by_cases e : ∃ i, i < n ∧ spn n y i (lo + s)
      · rcases hf _ e with ⟨_, h⟩ | ⟨h, _⟩
        · grind
        · grind
      · rw [hz _ e]; grind
    have hp := sumQ_pos (k := k) this hk (by rw [← ek]; grind)
    rw [sumQ_neg (fun (s : Nat) => f (lo + s))] at hp
    grind
  · right
    refine ⟨hm, ?_⟩
    have : ∀ s, s < N → 0 ≤ f (lo + (s : Nat)) := by
      intro s _
      by_cases e : ∃ i, i < n ∧ spn n y i (lo + s)
      · rcases hf _ e with ⟨h, _⟩ | ⟨_, h⟩
        · grind
        · grind
      · rw [hz _ e]; grind
    exact sumQ_pos (f := fun (s : Nat) => f (lo + s)) (k := k) this hk (by rw [← ek]; grind)
theorem tm_none {s : Int} (hs : ¬ (∃ i, i < n ∧ spn n y i s)) (v : Nat → Rat) : sumQ (tmV n y v s) n = 0 := by
  rw [sumQ_congr (g := fun _ => 0), sumQ_zero]
  intro j hj
  unfold tmV
  rw [if_neg (fun e => hs ⟨j, hj, e⟩)]
/-- Area and first moment have the same sign, where no place is below 0. -/
theorem same_sign (S : Simple n x y) (hx : ∀ i, i < n → 0 ≤ x i) (lo : Int) (N : Nat) (h : ∀ j, j < n → lo ≤ y j ∧ y j ≤ lo + N) :
    let a := sumQ (fun j => ((x j : Rat) + x (nxt n j)) * ((y (nxt n j) : Rat) - y j) / 2) n
    let b := sumQ (fun j => ((x j : Rat) * x j + x j * x (nxt n j) + x (nxt n j) * x (nxt n j)) * ((y (nxt n j) : Rat) - y j)) n
    (a < 0 ∧ b < 0) ∨ (0 < a ∧ 0 < b) := by
  intro a b
  have ha := S.strips_sign lo N h (fun s => sumQ (tmF n x y s) n) (fun s hs => by
    have := tm_none hs (fun j => pos n x y j ((s : Rat) + 1 / 2)); exact this) (fun s hs => S.strip s hs)
  have hb := S.strips_sign lo N h (fun s => sumQ (tmV n y (sqv n x y s) s) n) (fun s hs => tm_none hs _) (fun s hs => S.stripV _ s (fun i j hi hj si sj => S.sqv_order hx s i j hi hj si sj) hs)
  have ea : a = _ := S.area_sum lo N h
  have eb : b = _ := S.moment_sum lo N h
  grind
end Simple
open Geo
variable {n : Nat} {x y : Nat → Int}
namespace Simple
theorem slo_sub (c : Int) (i : Nat) : slo n (fun i => x i - c) y i = slo n x y i := by
  unfold slo
  rw [Rat.intCast_sub, Rat.intCast_sub, show ((x (nxt n i) : Rat) - c - ((x i : Rat) - c)) = (x (nxt n i) : Rat) - x i by grind]
theorem pos_sub (c : Int) (i : Nat) (h : Rat) : pos n (fun i => x i - c) y i h = pos n x y i h - c := by
  unfold pos
  rw [slo_sub, Rat.intCast_sub]; grind
theorem sub (S : Simple n x y) (c : Int) : Simple n (fun i => x i - c) y :=
  ⟨S.three, S.inj, fun i j h hi hj hij wi wj e => S.nc i j h hi hj hij wi wj (by rw [pos_sub, pos_sub] at e; grind)⟩
theorem slo_flip (c : Int) (i : Nat) : slo n (fun i => c - x i) y i = - slo n x y i := by
  unfold slo
  rw [Rat.intCast_sub, Rat.intCast_sub, show ((c : Rat) - (x (nxt n i) : Rat) - ((c : Rat) - x i)) = - ((x (nxt n i) : Rat) - x i) by grind, Rat.div_def, Rat.div_def]; grind
theorem pos_flip (c : Int) (i : Nat) (h : Rat) : pos n (fun i => c - x i) y i h = c - pos n x y i h := by
  unfold pos
  rw [slo_flip, Rat.intCast_sub]; grind
theorem flip (S : Simple n x y) (c : Int) : Simple n (fun i => c - x i) y :=
  ⟨S.three, S.inj, fun i j h hi hj hij wi wj e => S.nc i j h hi hj hij wi wj (by rw [pos_flip, pos_flip] at e; grind)⟩
end Simple
/-- The sums over sides, as integers. -/
def areaZ (n : Nat) (x y : Nat → Int) : Int := ((List.range n).map fun j => (x j + x (nxt n j)) * (y (nxt n j) - y j)).sum
def momZ (n : Nat) (x y : Nat → Int) : Int := ((List.range n).map fun j => (x j * x j + x j * x (nxt n j) + x (nxt n j) * x (nxt n j)) * (y (nxt n j) - y j)).sum
theorem sum_rel {f g h k : Nat → Int} {n : Nat} (c d : Int) (hk : ∀ j, j < n → f j = c * g j + d * h j + k j) : ((List.range n).map f).sum = c * ((List.range n).map g).sum + d * ((List.range n).map h).sum + ((List.range n).map k).sum := by
  induction n with
  | zero => simp
  | succ n ih =>
    rw [List.range_succ]
    simp only [List.map_append, List.sum_append, List.map_cons, List.map_nil, List.sum_cons, List.sum_nil]
    rw [ih (fun j hj => hk j (by omega)), hk n (by omega)]
    grind
theorem sum_next (g : Nat → Int) {n : Nat} (hn : 0 < n) : ((List.range n).map fun j => g (nxt n j) - g j).sum = 0 := by
  have z := sumQ_next (fun j => ((g j : Int) : Rat)) hn
  have e1 := sumQ_cast (fun j => g (nxt n j) - g j) n
  rw [sumQ_congr (g := fun j => ((g (nxt n j) : Int) : Rat) - ((g j : Int) : Rat)) (fun j _ => Rat.intCast_sub _ _), sumQ_sub (fun j => ((g (nxt n j) : Int) : Rat)) (fun j => ((g j : Int) : Rat))] at e1
  unfold nxt at *
  rw [z] at e1
  have e0 : ((0 : Int) : Rat) = 0 := rfl
  exact cast_inj (by rw [← e1, e0]; grind)
theorem same_signZ (S : Simple n x y) (hx : ∀ i, i < n → 0 ≤ x i) (lo : Int) (N : Nat) (h : ∀ j, j < n → lo ≤ y j ∧ y j ≤ lo + N) :
    (areaZ n x y < 0 ∧ momZ n x y < 0) ∨ (0 < areaZ n x y ∧ 0 < momZ n x y) := by
  have := S.same_sign hx lo N h
  have e1 : sumQ (fun j => ((x j : Rat) + x (nxt n j)) * ((y (nxt n j) : Rat) - y j) / 2) n = 1 / 2 * (areaZ n x y : Rat) := by
    unfold areaZ
    rw [← sumQ_cast, ← sumQ_mul]
    exact sumQ_congr (fun j _ => by rw [Rat.intCast_mul, Rat.intCast_add, Rat.intCast_sub]; grind)
  have e2 : sumQ (fun j => ((x j : Rat) * x j + x j * x (nxt n j) + x (nxt n j) * x (nxt n j)) * ((y (nxt n j) : Rat) - y j)) n = (momZ n x y : Rat) := by
    unfold momZ
    rw [← sumQ_cast]
    exact sumQ_congr (fun j _ => by rw [Rat.intCast_mul, Rat.intCast_add, Rat.intCast_add, Rat.intCast_sub, Rat.intCast_mul, Rat.intCast_mul, Rat.intCast_mul])
  simp only [e1, e2] at this
  have e0 : ((0 : Int) : Rat) = 0 := rfl
  rcases this with ⟨a, b⟩ | ⟨a, b⟩
  · left
    have a' : (areaZ n x y : Rat) < ((0 : Int) : Rat) := by rw [e0]; grind
    have b' : (momZ n x y : Rat) < ((0 : Int) : Rat) := by rw [e0]; exact b
    exact ⟨by exact_mod_cast a', by exact_mod_cast b'⟩
  · right
    have a' : ((0 : Int) : Rat) < (areaZ n x y : Rat) := by rw [e0]; grind
    have b' : ((0 : Int) : Rat) < (momZ n x y : Rat) := by rw [e0]; exact b
    exact ⟨by exact_mod_cast a', by exact_mod_cast b'⟩
variable {P : Nat → Pt}
/-- The first moment lies strictly between the area times the least and times the greatest place. -/
theorem Free.moment (F : Free n P) {c d : Int} (hc : ∀ i, i < n → c ≤ (P i).1) (hd : ∀ i, i < n → (P i).1 ≤ d) :
    let t := ((List.range n).map fun j => turn (P j) (P (nxt n j)) (0, 0)).sum
    let m := ((List.range n).map fun j => turn (P j) (P (nxt n j)) (0, 0) * ((P j).1 + (P (nxt n j)).1)).sum
    (t < 0 ∧ m < 3 * c * t ∧ 3 * d * t < m) ∨ (0 < t ∧ 3 * c * t < m ∧ m < 3 * d * t) := by
  intro t m
  have n0 : 0 < n := by have := F.three; omega
  have hb : ∀ j, j < n → -90000 ≤ py P j ∧ py P j ≤ -90000 + (180000 : Nat) := fun j hj => by have := F.bd j hj; unfold py; omega
  have S := F.simple
  have h1 := same_signZ (S.sub c) (fun i hi => by have := hc i hi; unfold px; omega) (-90000) 180000 hb
  have h2 := same_signZ (S.flip d) (fun i hi => by have := hd i hi; unfold px; omega) (-90000) 180000 hb
  have a1 : areaZ n (fun i => px P i - c) (py P) = 401 * t + 0 * 0 := by
    have := sum_rel (f := fun j => ((px P j - c) + (px P (nxt n j) - c)) * (py P (nxt n j) - py P j)) (g := fun j => turn (P j) (P (nxt n j)) (0, 0)) (h := fun _ => 0)
      (k := fun j => (fun i => px P i * py P i - 2 * c * py P i) (nxt n j) - (fun i => px P i * py P i - 2 * c * py P i) j) (n := n) 401 0 (fun j _ => by unfold turn px py; grind)
    rw [sum_next (fun i => px P i * py P i - 2 * c * py P i) n0] at this
    unfold areaZ
    rw [this]; simp; rfl
  have b1 : areaZ n (fun i => d - px P i) (py P) = -401 * t + 0 * 0 := by
    have := sum_rel (f := fun j => ((d - px P j) + (d - px P (nxt n j))) * (py P (nxt n j) - py P j)) (g := fun j => turn (P j) (P (nxt n j)) (0, 0)) (h := fun _ => 0)
      (k := fun j => (fun i => 2 * d * py P i - px P i * py P i) (nxt n j) - (fun i => 2 * d * py P i - px P i * py P i) j) (n := n) (-401) 0 (fun j _ => by unfold turn px py; grind)
    rw [sum_next (fun i => 2 * d * py P i - px P i * py P i) n0] at this
    unfold areaZ
    rw [this]; simp; rfl
  have a2 : momZ n (fun i => px P i - c) (py P) = 401 * m + (-1203 * c) * t := by
    have := sum_rel (f := fun j => ((px P j - c) * (px P j - c) + (px P j - c) * (px P (nxt n j) - c) + (px P (nxt n j) - c) * (px P (nxt n j) - c)) * (py P (nxt n j) - py P j))
      (g := fun j => turn (P j) (P (nxt n j)) (0, 0) * ((P j).1 + (P (nxt n j)).1)) (h := fun j => turn (P j) (P (nxt n j)) (0, 0))
      (k := fun j => (fun i => px P i * px P i * py P i - 3 * c * (px P i * py P i) + 3 * c * c * py P i) (nxt n j) - (fun i => px P i * px P i * py P i - 3 * c * (px P i * py P i) + 3 * c * c * py P i) j) (n := n) 401 (-1203 * c) (fun j _ => by unfold turn px py; grind)
    rw [sum_next (fun i => px P i * px P i * py P i - 3 * c * (px P i * py P i) + 3 * c * c * py P i) n0] at this
    unfold momZ
    rw [this, Int.add_zero]
  have b2 : momZ n (fun i => d - px P i) (py P) = 401 * m + (-1203 * d) * t := by
    have := sum_rel (f := fun j => ((d - px P j) * (d - px P j) + (d - px P j) * (d - px P (nxt n j)) + (d - px P (nxt n j)) * (d - px P (nxt n j))) * (py P (nxt n j) - py P j))
      (g := fun j => turn (P j) (P (nxt n j)) (0, 0) * ((P j).1 + (P (nxt n j)).1)) (h := fun j => turn (P j) (P (nxt n j)) (0, 0))
      (k := fun j => (fun i => px P i * px P i * py P i - 3 * d * (px P i * py P i) + 3 * d * d * py P i) (nxt n j) - (fun i => px P i * px P i * py P i - 3 * d * (px P i * py P i) + 3 * d * d * py P i) j) (n := n) 401 (-1203 * d) (fun j _ => by unfold turn px py; grind)
    rw [sum_next (fun i => px P i * px P i * py P i - 3 * d * (px P i * py P i) + 3 * d * d * py P i) n0] at this
    unfold momZ
    rw [this, Int.add_zero]
  rw [a1, a2] at h1
  rw [b1, b2] at h2
  have e1 : -1203 * c * t = -401 * (3 * c * t) := by grind
  have e2 : -1203 * d * t = -401 * (3 * d * t) := by grind
  rw [e1] at h1
  rw [e2] at h2
  generalize 3 * c * t = u at *
  generalize 3 * d * t = v at *
  clear_value t m
  omega
end Area

namespace Geo
theorem free_valid {ps : List Pt} (h : validB ps = true) : Area.Free ps.length (ptAt ps) := by
  obtain ⟨⟨h3, h10⟩, ⟨hb, hnd⟩, hf⟩ := (validB_iff ps).1 h
  refine ⟨h3, ?_, fun i j hi hj e => ptAt_inj hnd hi hj e, fun i k hi hk => hf i k hi hk⟩
  intro i hi
  have hp := hb (ptAt ps i) (by rw [ptAt_eq (List.getElem?_eq_getElem hi)]; exact List.getElem_mem hi)
  unfold ptB inB at hp
  simp at hp
  omega
/-- A valid polygon has an area. -/
theorem area_ne {ps : List Pt} (h : validB ps = true) : tot fanV ps ≠ 0 := by
  have := (free_valid h).area
  unfold tot sidesL
  rw [List.map_map]
  exact this
end Geo
end Go.Proofs.YtmjcdggmofohcaaGreat
