/- Walks, plain: the sweep of elbows is the area less the turns' loops; the sweeps of all elbows, ascending. -/
import Derived.Test.YtmjcdggmofohcaaWlQ
namespace Go.Proofs.Ytmjcdggmofohcaa
namespace Wl
theorem eAt_esAt {es : List Int} {k : Nat} (h : k < es.length) : eAt es k = esAt es k := by unfold eAt esAt; rw [Nat.mod_eq_of_lt h]
theorem eAt_mod (es : List Int) (k : Nat) : eAt es k = esAt es (k % es.length) := rfl
theorem elbV_B {t : Trk} {ws : List Pt} {es : List Int} (h0 : 0 < ws.length) (h : elbV t ws es = true) : elbB t es := by
  obtain ⟨hl, hf, hn⟩ := elbV_iff.1 h
  have hm : ∀ k, k % es.length < es.length := fun k => Nat.mod_lt _ (by omega)
  refine ⟨fun k => ?_, fun k => ?_⟩
  · have := hf _ (hm k)
    rw [fitB_mem, mem_reachL] at this
    exact this.1
  · have := hn _ (hm k)
    rw [eAt_mod, eAt_mod]
    rwa [Nat.mod_add_mod] at this
theorem stTo_bd {t : Trk} {es : List Int} (h : elbB t es) : ∀ k : Nat, -(k : Int) ≤ stTo t es k ∧ stTo t es k ≤ k
  | 0 => by simp [stTo]
  | k + 1 => by
    have ih := stTo_bd h k
    have hn := h.2 k
    unfold nearB at hn
    simp only [Bool.and_eq_true, decide_eq_true_eq] at hn
    show -((k + 1 : Nat) : Int) ≤ stTo t es k + stepV t (eAt es k) (eAt es (k + 1)) ∧ stTo t es k + stepV t (eAt es k) (eAt es (k + 1)) ≤ ((k + 1 : Nat) : Int)
    omega
theorem turnsV_bd {t : Trk} {es : List Int} (h : elbB t es) : -(es.length : Int) ≤ turnsV t es ∧ turnsV t es ≤ es.length := by
  have h1 := stTo_bd h es.length
  have h2 := Int.natAbs_tdiv_le_natAbs (stTo t es es.length) (t.ps.length : Int)
  unfold turnsV
  omega
theorem trkB_cl {t : Trk} (h : trkB t = true) : t.cl = 0 ∨ t.cl = 1 := by
  unfold trkB at h
  simp only [Bool.and_eq_true, Bool.or_eq_true, decide_eq_true_eq] at h
  obtain ⟨⟨⟨⟨_, h2⟩, _⟩, _⟩, _⟩ := h
  unfold inB at h2
  simp only [Bool.and_eq_true, decide_eq_true_eq] at h2
  omega
/-- The theorem of the planimeter. -/
theorem meterV {t : Trk} {ws : List Pt} {es : List Int} (ht : trkB t = true) (h0 : 0 < ws.length) (h : elbV t ws es = true) :
    sweepV t ws es = dbl ws - turnsV t es * dbl t.ps ∧ (t.cl ≠ 1 → turnsV t es = 0) ∧ -(ws.length : Int) ≤ turnsV t es ∧ turnsV t es ≤ ws.length := by
  obtain ⟨_, hc, hn⟩ := trk_parts ht
  have hl := (elbV_iff.1 h).1
  have hB := elbV_B h0 h
  obtain ⟨m1, m2⟩ := meter (ws := ws) hc hB hl (by omega)
  have := turnsV_bd hB
  exact ⟨m1, m2, by omega, by omega⟩
/-- Put a number into an ascending list, once. -/
def insA (n : Int) : List Int → List Int
  | [] => [n]
  | x :: l => if n < x then n :: x :: l else if n = x then x :: l else x :: insA n l
def ascOf (l : List Int) : List Int := l.foldl (fun a n => insA n a) []
def rollsL (t : Trk) (ws : List Pt) : List Int := ascOf ((elbsL t ws).map (sweepV t ws))
abbrev asc (l : List Int) : Prop := l.Pairwise (· < ·)
theorem mem_insA {n x : Int} : ∀ {l : List Int}, x ∈ insA n l ↔ x = n ∨ x ∈ l
  | [] => by simp [insA]
  | y :: l => by
    show x ∈ (if n < y then n :: y :: l else if n = y then y :: l else y :: insA n l) ↔ _
    split
    · simp
    · split
      · rename_i e
        subst e
        simp
      · rw [List.mem_cons, mem_insA (l := l), List.mem_cons]
        constructor
        · rintro (h | h | h)
          · exact .inr (.inl h)
          · exact .inl h
          · exact .inr (.inr h)
        · rintro (h | h | h)
          · exact .inr (.inl h)
          · exact .inl h
          · exact .inr (.inr h)
theorem asc_insA {n : Int} : ∀ {l : List Int}, asc l → asc (insA n l)
  | [], _ => List.pairwise_singleton _ _
  | y :: l, h => by
    show asc (if n < y then n :: y :: l else if n = y then y :: l else y :: insA n l)
    have hp := List.pairwise_cons.1 h
    split
    · rename_i hn
      refine List.pairwise_cons.2 ⟨fun z hz => ?_, h⟩
      rcases List.mem_cons.1 hz with rfl | hz
      · exact hn
      · have := hp.1 z hz; omega
    · split
      · exact h
      · refine List.pairwise_cons.2 ⟨fun z hz => ?_, asc_insA hp.2⟩
        rcases mem_insA.1 hz with rfl | hz
        · omega
        · exact hp.1 z hz
theorem fold_insA : ∀ (l a : List Int), asc a → asc (l.foldl (fun a n => insA n a) a) ∧ ∀ x, x ∈ l.foldl (fun a n => insA n a) a ↔ x ∈ a ∨ x ∈ l
  | [], a, h => ⟨h, fun x => by simp⟩
  | n :: l, a, h => by
    obtain ⟨h1, h2⟩ := fold_insA l (insA n a) (asc_insA h)
    refine ⟨h1, fun x => ?_⟩
    show x ∈ l.foldl (fun a n => insA n a) (insA n a) ↔ _
    rw [h2, mem_insA, List.mem_cons]
    constructor
    · rintro ((h | h) | h)
      · exact .inr (.inl h)
      · exact .inl h
      · exact .inr (.inr h)
    · rintro (h | h | h)
      · exact .inl (.inr h)
      · exact .inl (.inl h)
      · exact .inr h
theorem asc_ascOf (l : List Int) : asc (ascOf l) := (fold_insA l [] List.Pairwise.nil).1
theorem mem_ascOf {l : List Int} {x : Int} : x ∈ ascOf l ↔ x ∈ l := by
  have := (fold_insA l [] List.Pairwise.nil).2 x
  rw [show (ascOf l) = l.foldl (fun a n => insA n a) [] from rfl, this]
  simp
/-- Two ascending lists of the same numbers are one. -/
theorem asc_one : ∀ {a b : List Int}, asc a → asc b → (∀ x, x ∈ a ↔ x ∈ b) → a = b
  | [], [], _, _, _ => rfl
  | [], y :: b, _, _, h => absurd ((h y).2 List.mem_cons_self) (by simp)
  | x :: a, [], _, _, h => absurd ((h x).1 List.mem_cons_self) (by simp)
  | x :: a, y :: b, ha, hb, h => by
    have pa := List.pairwise_cons.1 ha
    have pb := List.pairwise_cons.1 hb
    have e : x = y := by
      rcases List.mem_cons.1 ((h x).1 List.mem_cons_self) with e | e
      · exact e
      · rcases List.mem_cons.1 ((h y).2 List.mem_cons_self) with e' | e'
        · exact e'.symm
        · have := pb.1 x e
          have := pa.1 y e'
          omega
    subst e
    rw [asc_one pa.2 pb.2 (fun z => ?_)]
    constructor
    · intro hz
      rcases List.mem_cons.1 ((h z).1 (List.mem_cons_of_mem _ hz)) with e | e
      · have := pa.1 z hz; omega
      · exact e
    · intro hz
      rcases List.mem_cons.1 ((h z).2 (List.mem_cons_of_mem _ hz)) with e | e
      · have := pb.1 z hz; omega
      · exact e
theorem mem_rollsL {t : Trk} {ws : List Pt} (h0 : 0 < ws.length) {n : Int} : n ∈ rollsL t ws ↔ ∃ es, elbV t ws es = true ∧ sweepV t ws es = n := by
  unfold rollsL
  rw [mem_ascOf, List.mem_map]
  constructor
  · rintro ⟨es, h1, h2⟩
    exact ⟨es, (mem_elbsL h0).1 h1, h2⟩
  · rintro ⟨es, h1, h2⟩
    exact ⟨es, (mem_elbsL h0).2 h1, h2⟩
/-- The sweeps on a track that is not closed. -/
theorem rolls_open {t : Trk} {ws : List Pt} (ht : trkB t = true) (hc : t.cl = 0) (h0 : 0 < ws.length) (hne : elbsL t ws ≠ []) : rollsL t ws = [dbl ws] := by
  refine asc_one (asc_ascOf _) (List.pairwise_singleton _ _) (fun x => ?_)
  rw [mem_rollsL h0, List.mem_singleton]
  have hs : ∀ es, elbV t ws es = true → sweepV t ws es = dbl ws := fun es he => by
    obtain ⟨m1, m2, _⟩ := meterV ht h0 he
    rw [m1, m2 (by omega), Int.zero_mul, Int.sub_zero]
  constructor
  · rintro ⟨es, he, rfl⟩
    exact hs es he
  · rintro rfl
    obtain ⟨es, hes⟩ := List.exists_mem_of_ne_nil _ hne
    have he := (mem_elbsL h0).1 hes
    exact ⟨es, he, hs es he⟩
end Wl
end Go.Proofs.Ytmjcdggmofohcaa
