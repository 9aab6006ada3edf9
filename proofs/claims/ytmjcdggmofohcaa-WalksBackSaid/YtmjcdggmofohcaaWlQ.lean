/- Walks, plain: all elbows of a walk, one after the other. -/
import Derived.Test.YtmjcdggmofohcaaWlP
import Derived.Test.YtmjcdggmofohcaaWlC
namespace Go.Proofs.Ytmjcdggmofohcaa
namespace Wl
/-- All places from which the arm reaches a point. -/
def reachL (t : Trk) (a : Pt) : List Int := ((List.range t.ps.length).filter (fun p : Nat => reachB t (p : Int) a)).map (fun p : Nat => (p : Int))
def lastV (pl : List Int) : Int := esAt pl (pl.length - 1)
/-- All elbows that begin with some places, of which some are missing. -/
def goL (t : Trk) (ws : List Pt) : Nat → List Int → List (List Int)
  | 0, pl => if nearB t (lastV pl) (esAt pl 0) then [pl] else []
  | k + 1, pl => (reachL t (ptAt ws pl.length)).flatMap fun p => if 0 < pl.length ∧ nearB t (lastV pl) p = false then [] else goL t ws k (pl ++ [p])
def elbsL (t : Trk) (ws : List Pt) : List (List Int) := goL t ws ws.length []
theorem mem_reachL {t : Trk} {a : Pt} {p : Int} : p ∈ reachL t a ↔ (0 ≤ p ∧ p < t.ps.length) ∧ reachB t p a = true := by
  unfold reachL
  rw [List.mem_map]
  constructor
  · rintro ⟨k, hk, rfl⟩
    rw [List.mem_filter, List.mem_range] at hk
    exact ⟨⟨by omega, by omega⟩, hk.2⟩
  · rintro ⟨⟨h1, h2⟩, h3⟩
    refine ⟨p.toNat, ?_, by omega⟩
    rw [List.mem_filter, List.mem_range]
    refine ⟨by omega, ?_⟩
    rw [show ((p.toNat : Nat) : Int) = p by omega]
    exact h3
theorem reachL_nodup (t : Trk) (a : Pt) : (reachL t a).Nodup := by
  unfold reachL
  unfold List.Nodup
  rw [List.pairwise_map]
  refine List.Pairwise.imp ?_ ((List.nodup_range (n := t.ps.length)).filter _)
  intro x y h e
  exact h (by omega)
theorem esAt_app (pl ex : List Int) (k : Nat) (h : k < pl.length) : esAt (pl ++ ex) k = esAt pl k := by
  unfold esAt
  rw [List.getElem?_append_left h]
theorem esAt_new (pl ex : List Int) (p : Int) : esAt (pl ++ [p] ++ ex) pl.length = p := by
  unfold esAt
  rw [List.append_assoc, List.getElem?_append_right (Nat.le_refl _), Nat.sub_self]
  rfl
/-- A place fits: it is one of the track, and the arm reaches from it. -/
def fitB (t : Trk) (ws : List Pt) (es : List Int) (k : Nat) : Bool := inB (esAt es k) 0 ((t.ps.length : Int) - 1) && reachB t (esAt es k) (ptAt ws k)
theorem fitB_mem {t : Trk} {ws : List Pt} {es : List Int} {k : Nat} : fitB t ws es k = true ↔ esAt es k ∈ reachL t (ptAt ws k) := by
  rw [mem_reachL]
  unfold fitB inB
  simp only [Bool.and_eq_true, decide_eq_true_eq]
  constructor
  · rintro ⟨⟨h1, h2⟩, h3⟩
    exact ⟨⟨h1, by omega⟩, h3⟩
  · rintro ⟨⟨h1, h2⟩, h3⟩
    exact ⟨⟨h1, by omega⟩, h3⟩
theorem mem_goL {t : Trk} {ws : List Pt} {es : List Int} : ∀ (k : Nat) (pl : List Int), es ∈ goL t ws k pl ↔
    (∃ ex, es = pl ++ ex ∧ ex.length = k) ∧ (∀ i, pl.length ≤ i → i < es.length → fitB t ws es i = true) ∧ (∀ i, pl.length ≤ i → i < es.length → 0 < i → nearB t (esAt es (i - 1)) (esAt es i) = true) ∧ nearB t (esAt es (es.length - 1)) (esAt es 0) = true
  | 0, pl => by
    show es ∈ (if nearB t (lastV pl) (esAt pl 0) = true then [pl] else []) ↔ _
    unfold lastV
    constructor
    · intro h
      split at h
      · rename_i hn
        rw [List.mem_singleton] at h
        subst h
        exact ⟨⟨[], by simp, rfl⟩, fun i h1 h2 => by omega, fun i h1 h2 => by omega, hn⟩
      · cases h
    · rintro ⟨⟨ex, e, h0⟩, _, _, hn⟩
      have hx : ex = [] := List.length_eq_zero_iff.1 h0
      subst hx
      rw [List.append_nil] at e
      subst e
      rw [if_pos hn]
      exact List.mem_singleton.2 rfl
  | k + 1, pl => by
    show es ∈ (reachL t (ptAt ws pl.length)).flatMap (fun p => if 0 < pl.length ∧ nearB t (lastV pl) p = false then [] else goL t ws k (pl ++ [p])) ↔ _
    rw [List.mem_flatMap]
    constructor
    · rintro ⟨p, hp, h⟩
      split at h
      · cases h
      · rename_i hc
        obtain ⟨⟨ex, e, hx⟩, hf, hn, hz⟩ := (mem_goL k (pl ++ [p])).1 h
        rw [List.length_append, List.length_singleton] at hf hn
        have hat : esAt es pl.length = p := by rw [e]; exact esAt_new pl ex p
        refine ⟨⟨[p] ++ ex, by rw [e, List.append_assoc], by rw [List.length_append, hx, List.length_singleton]; omega⟩, ?_, ?_, hz⟩
        · intro i h1 h2
          by_cases hi : i = pl.length
          · subst hi
            rw [fitB_mem, hat]
            exact hp
          · exact hf i (by omega) h2
        · intro i h1 h2 h3
          by_cases hi : i = pl.length
          · subst hi
            rw [hat]
            have hl : esAt es (pl.length - 1) = lastV pl := by
              unfold lastV
              rw [e, List.append_assoc]
              exact esAt_app _ _ _ (by omega)
            rw [hl]
            cases hb : nearB t (lastV pl) p with
            | true => rfl
            | false => exact absurd ⟨h3, hb⟩ hc
          · exact hn i (by omega) h2 h3
    · rintro ⟨⟨ex, e, hx⟩, hf, hn, hz⟩
      match ex, hx with
      | p :: ex, hx =>
        have hx' : ex.length = k := by simpa using hx
        have e' : es = pl ++ [p] ++ ex := by rw [e, List.append_assoc]; rfl
        have hat : esAt es pl.length = p := by rw [e']; exact esAt_new pl ex p
        have hl : pl.length < es.length := by rw [e, List.length_append, List.length_cons]; omega
        refine ⟨p, ?_, ?_⟩
        · have := hf pl.length (Nat.le_refl _) hl
          rw [fitB_mem, hat] at this
          exact this
        · rw [if_neg]
          · refine (mem_goL k (pl ++ [p])).2 ⟨⟨ex, e', hx'⟩, ?_, ?_, hz⟩
            · intro i h1 h2
              rw [List.length_append, List.length_singleton] at h1
              exact hf i (by omega) h2
            · intro i h1 h2 h3
              rw [List.length_append, List.length_singleton] at h1
              exact hn i (by omega) h2 h3
          · rintro ⟨h3, hb⟩
            have := hn pl.length (Nat.le_refl _) hl h3
            rw [hat] at this
            have hl : esAt es (pl.length - 1) = lastV pl := by
              unfold lastV
              rw [e]
              exact esAt_app _ _ _ (by omega)
            rw [hl, hb] at this
            cases this
theorem goL_nodup (t : Trk) (ws : List Pt) : ∀ (k : Nat) (pl : List Int), (goL t ws k pl).Nodup
  | 0, pl => by
    show (if nearB t (lastV pl) (esAt pl 0) = true then [pl] else []).Nodup
    split
    · exact List.pairwise_singleton _ _
    · exact List.Pairwise.nil
  | k + 1, pl => by
    show ((reachL t (ptAt ws pl.length)).flatMap (fun p => if 0 < pl.length ∧ nearB t (lastV pl) p = false then [] else goL t ws k (pl ++ [p]))).Nodup
    unfold List.Nodup
    rw [List.pairwise_flatMap]
    refine ⟨fun p hp => ?_, ?_⟩
    · split
      · exact List.Pairwise.nil
      · exact goL_nodup t ws k (pl ++ [p])
    · refine List.Pairwise.imp ?_ (reachL_nodup t (ptAt ws pl.length))
      intro p q hpq x hx y hy e
      subst e
      split at hx
      · cases hx
      · split at hy
        · cases hy
        · obtain ⟨⟨e1, h1, _⟩, _⟩ := (mem_goL k (pl ++ [p])).1 hx
          obtain ⟨⟨e2, h2, _⟩, _⟩ := (mem_goL k (pl ++ [q])).1 hy
          have a1 : esAt x pl.length = p := by rw [h1]; exact esAt_new pl e1 p
          have a2 : esAt x pl.length = q := by rw [h2]; exact esAt_new pl e2 q
          exact hpq (a1.symm.trans a2)
theorem elbsL_nodup (t : Trk) (ws : List Pt) : (elbsL t ws).Nodup := goL_nodup t ws _ _
theorem fitTo_iff {t : Trk} {ws : List Pt} {es : List Int} : ∀ n, fitTo t ws es n = true ↔ ∀ k, k < n → fitB t ws es k = true
  | 0 => ⟨fun _ k h => by omega, fun _ => rfl⟩
  | n + 1 => by
    show (fitTo t ws es n && fitB t ws es n) = true ↔ _
    rw [Bool.and_eq_true, fitTo_iff n]
    constructor
    · rintro ⟨h1, h2⟩ k hk
      by_cases e : k = n
      · subst e; exact h2
      · exact h1 k (by omega)
    · intro h
      exact ⟨fun k hk => h k (by omega), h n (by omega)⟩
theorem tieTo_iff {t : Trk} {es : List Int} : ∀ n, tieTo t es n = true ↔ ∀ k, k < n → nearB t (esAt es k) (esAt es ((k + 1) % es.length)) = true
  | 0 => ⟨fun _ k h => by omega, fun _ => rfl⟩
  | n + 1 => by
    show (tieTo t es n && _) = true ↔ _
    rw [Bool.and_eq_true, tieTo_iff n]
    constructor
    · rintro ⟨h1, h2⟩ k hk
      by_cases e : k = n
      · subst e; exact h2
      · exact h1 k (by omega)
    · intro h
      exact ⟨fun k hk => h k (by omega), h n (by omega)⟩
theorem elbV_iff {t : Trk} {ws : List Pt} {es : List Int} : elbV t ws es = true ↔ es.length = ws.length ∧ (∀ k, k < es.length → fitB t ws es k = true) ∧ ∀ k, k < es.length → nearB t (esAt es k) (esAt es ((k + 1) % es.length)) = true := by
  unfold elbV
  rw [Bool.and_eq_true, Bool.and_eq_true, decide_eq_true_iff, fitTo_iff, tieTo_iff]
theorem mem_elbsL {t : Trk} {ws : List Pt} (h0 : 0 < ws.length) {es : List Int} : es ∈ elbsL t ws ↔ elbV t ws es = true := by
  unfold elbsL
  rw [mem_goL, elbV_iff]
  constructor
  · rintro ⟨⟨ex, e, hx⟩, hf, hn, hz⟩
    have hl : es.length = ws.length := by rw [e]; simpa using hx
    refine ⟨hl, fun k hk => hf k (by simp) hk, fun k hk => ?_⟩
    by_cases hk1 : k + 1 = es.length
    · rw [hk1, Nat.mod_self]
      have : k = es.length - 1 := by omega
      rw [this]
      exact hz
    · rw [Nat.mod_eq_of_lt (show k + 1 < es.length by omega)]
      exact hn (k + 1) (by simp) (by omega) (by omega)
  · rintro ⟨hl, hf, hn⟩
    refine ⟨⟨es, by simp, hl⟩, fun i _ hi => hf i hi, fun i _ hi h => ?_, ?_⟩
    · have := hn (i - 1) (by omega)
      rw [show i - 1 + 1 = i by omega, Nat.mod_eq_of_lt hi] at this
      exact this
    · have := hn (es.length - 1) (by omega)
      rw [show es.length - 1 + 1 = es.length by omega, Nat.mod_self] at this
      exact this
/-- How often the place changes. -/
def mvTo (es : List Int) : Nat → Int
  | 0 => 0
  | k + 1 => mvTo es k + (if esAt es k = esAt es ((k + 1) % es.length) then 0 else 1)
def movesV (es : List Int) : Int := mvTo es es.length
/-- The best of some elbows, beginning with one that was found before. -/
def calmB : List Int → List (List Int) → List Int
  | b, [] => b
  | b, es :: l => calmB (if movesV es < movesV b then es else b) l
def calmV : List (List Int) → List Int
  | [] => []
  | es :: l => calmB es l
theorem calmB_le : ∀ (l : List (List Int)) (b : List Int), (calmB b l = b ∨ calmB b l ∈ l) ∧ movesV (calmB b l) ≤ movesV b ∧ ∀ es ∈ l, movesV (calmB b l) ≤ movesV es
  | [], b => ⟨.inl rfl, Int.le_refl _, fun es h => by cases h⟩
  | es :: l, b => by
    obtain ⟨h1, h2, h3⟩ := calmB_le l (if movesV es < movesV b then es else b)
    show (calmB (if movesV es < movesV b then es else b) l = b ∨ calmB (if movesV es < movesV b then es else b) l ∈ es :: l) ∧ movesV (calmB (if movesV es < movesV b then es else b) l) ≤ movesV b ∧ ∀ e' ∈ es :: l, movesV (calmB (if movesV es < movesV b then es else b) l) ≤ movesV e'
    by_cases h : movesV es < movesV b
    · rw [if_pos h] at h1 h2 h3 ⊢
      refine ⟨.inr (h1.elim (fun e => by rw [e]; exact List.mem_cons_self) (fun e => List.mem_cons_of_mem _ e)), by omega, fun e' he => ?_⟩
      rcases List.mem_cons.1 he with rfl | he
      · exact h2
      · exact h3 e' he
    · rw [if_neg h] at h1 h2 h3 ⊢
      refine ⟨h1.elim .inl (fun e => .inr (List.mem_cons_of_mem _ e)), h2, fun e' he => ?_⟩
      rcases List.mem_cons.1 he with rfl | he
      · omega
      · exact h3 e' he
theorem calmV_spec {l : List (List Int)} (h : l ≠ []) : calmV l ∈ l ∧ ∀ es ∈ l, movesV (calmV l) ≤ movesV es := by
  match l, h with
  | es :: l, _ =>
    obtain ⟨h1, h2, h3⟩ := calmB_le l es
    refine ⟨h1.elim (fun e => by show calmB es l ∈ _; rw [e]; exact List.mem_cons_self) (fun e => List.mem_cons_of_mem _ e), fun e' he => ?_⟩
    rcases List.mem_cons.1 he with rfl | he
    · exact h2
    · exact h3 e' he
end Wl
end Go.Proofs.Ytmjcdggmofohcaa
