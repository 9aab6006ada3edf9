/- Walks: a number in a row, what is ready, the moves of elbows by the reference. -/
import Derived.Test.YtmjcdggmofohcaaWlR
import Derived.Test.YtmjcdggmofohcaaFar5
import Derived.Test.YtmjcdggmofohcaaSameI
namespace Go.Proofs.Ytmjcdggmofohcaa
namespace Wl
/-- Whether the arm reaches the first points of a walk from a place. -/
def allTo (t : Trk) (ws : List Pt) (p : Int) : Nat → Bool
  | 0 => true
  | k + 1 => allTo t ws p k && decide (p ∈ reachL t (ptAt ws k))
/-- Whether one of the first places reaches all points. -/
def stillTo (t : Trk) (ws : List Pt) : Nat → Bool
  | 0 => false
  | k + 1 => stillTo t ws k || allTo t ws (k : Int) ws.length
theorem allTo_iff {t : Trk} {ws : List Pt} {p : Int} : ∀ n, allTo t ws p n = true ↔ ∀ k, k < n → p ∈ reachL t (ptAt ws k)
  | 0 => by simp [allTo]
  | n + 1 => by
    show (allTo t ws p n && decide (p ∈ reachL t (ptAt ws n))) = true ↔ _
    rw [Bool.and_eq_true, allTo_iff n, decide_eq_true_iff]
    constructor
    · rintro ⟨h1, h2⟩ k hk
      by_cases e : k = n
      · rw [e]; exact h2
      · exact h1 k (by omega)
    · intro h
      exact ⟨fun k hk => h k (by omega), h n (by omega)⟩
theorem stillTo_iff {t : Trk} {ws : List Pt} : ∀ n, stillTo t ws n = true ↔ ∃ k, k < n ∧ allTo t ws (k : Int) ws.length = true
  | 0 => by simp [stillTo]
  | n + 1 => by
    show (stillTo t ws n || allTo t ws (n : Int) ws.length) = true ↔ _
    rw [Bool.or_eq_true, stillTo_iff n]
    constructor
    · rintro (⟨k, hk, h⟩ | h)
      · exact ⟨k, by omega, h⟩
      · exact ⟨n, by omega, h⟩
    · rintro ⟨k, hk, h⟩
      by_cases e : k = n
      · rw [← e]; exact .inr h
      · exact .inl ⟨k, by omega, h⟩
theorem mvTo_nn (es : List Int) : ∀ k, 0 ≤ mvTo es k ∧ mvTo es k ≤ k
  | 0 => by simp [mvTo]
  | k + 1 => by
    have := mvTo_nn es k
    show 0 ≤ mvTo es k + _ ∧ mvTo es k + _ ≤ ((k + 1 : Nat) : Int)
    split <;> omega
theorem mvTo_zero {es : List Int} : ∀ n, mvTo es n = 0 ↔ ∀ k, k < n → esAt es k = esAt es ((k + 1) % es.length)
  | 0 => by simp [mvTo]
  | n + 1 => by
    have h1 := mvTo_nn es n
    show mvTo es n + (if esAt es n = esAt es ((n + 1) % es.length) then 0 else 1) = 0 ↔ _
    constructor
    · intro h k hk
      by_cases e : esAt es n = esAt es ((n + 1) % es.length)
      · rw [if_pos e] at h
        by_cases ek : k = n
        · rw [ek]; exact e
        · exact (mvTo_zero n).1 (by omega) k (by omega)
      · rw [if_neg e] at h
        omega
    · intro h
      rw [if_pos (h n (by omega)), (mvTo_zero n).2 (fun k hk => h k (by omega))]
      rfl
theorem esAt_rep (n : Nat) (p : Int) {k : Nat} (h : k < n) : esAt (List.replicate n p) k = p := by
  unfold esAt
  rw [List.getElem?_replicate, if_pos h]
  rfl
theorem near_self {t : Trk} {p : Int} : nearB t p p = true := by
  unfold nearB stepV
  rw [Bool.and_eq_true, decide_eq_true_iff, decide_eq_true_iff, Int.sub_self]
  split
  · exact ⟨by decide, by decide⟩
  · split
    · exact ⟨by decide, by decide⟩
    · exact ⟨by decide, by decide⟩
theorem still_iff {t : Trk} {ws : List Pt} (h0 : 0 < ws.length) : stillTo t ws t.ps.length = true ↔ ∃ es, elbV t ws es = true ∧ movesV es = 0 := by
  rw [stillTo_iff]
  constructor
  · rintro ⟨k, hk, h⟩
    rw [allTo_iff] at h
    refine ⟨List.replicate ws.length (k : Int), elbV_iff.2 ⟨by simp, fun i hi => ?_, fun i hi => ?_⟩, ?_⟩
    · rw [List.length_replicate] at hi
      rw [fitB_mem, esAt_rep _ _ hi]
      exact h i hi
    · rw [List.length_replicate] at hi ⊢
      rw [esAt_rep _ _ hi, esAt_rep _ _ (Nat.mod_lt _ h0)]
      exact near_self
    · unfold movesV
      rw [mvTo_zero, List.length_replicate]
      intro i hi
      rw [esAt_rep _ _ hi, esAt_rep _ _ (Nat.mod_lt _ h0)]
  · rintro ⟨es, he, hm⟩
    obtain ⟨hl, hf, _⟩ := elbV_iff.1 he
    unfold movesV at hm
    rw [mvTo_zero] at hm
    have hall : ∀ k, k < es.length → esAt es k = esAt es 0 := by
      intro k
      induction k with
      | zero => intro _; rfl
      | succ k ih =>
        intro hk
        rw [← ih (by omega), hm k (by omega), Nat.mod_eq_of_lt hk]
    have hm0 := mem_reachL.1 (fitB_mem.1 (hf 0 (by omega)))
    refine ⟨(esAt es 0).toNat, by omega, (allTo_iff _).2 fun k hk => ?_⟩
    rw [show ((esAt es 0).toNat : Int) = esAt es 0 by omega, ← hall k (by omega)]
    exact fitB_mem.1 (hf k (by omega))
theorem movesV_nn (es : List Int) : 0 ≤ movesV es ∧ movesV es ≤ es.length := mvTo_nn es _
theorem calm_still {t : Trk} {ws : List Pt} (h0 : 0 < ws.length) (hne : elbsL t ws ≠ []) : decide (movesV (calmV (elbsL t ws)) = 0) = stillTo t ws t.ps.length := by
  obtain ⟨hm, hle⟩ := calmV_spec hne
  cases hb : stillTo t ws t.ps.length with
  | true =>
    obtain ⟨es, he, h⟩ := (still_iff h0).1 hb
    have h1 := hle es ((mem_elbsL h0).2 he)
    have h2 := movesV_nn (calmV (elbsL t ws))
    exact decide_eq_true (by omega)
  | false =>
    refine decide_eq_false fun h => ?_
    rw [(still_iff h0).2 ⟨_, (mem_elbsL h0).1 hm, h⟩] at hb
    cases hb
theorem none_still {t : Trk} {ws : List Pt} (h0 : 0 < ws.length) (hne : elbsL t ws = []) : stillTo t ws t.ps.length = false ∧ ∀ es, elbV t ws es = false := by
  have hno : ∀ es, elbV t ws es = false := fun es => by
    cases hb : elbV t ws es with
    | false => rfl
    | true => have := (mem_elbsL h0).2 hb; rw [hne] at this; cases this
  refine ⟨?_, hno⟩
  cases hb : stillTo t ws t.ps.length with
  | false => rfl
  | true =>
    obtain ⟨es, he, _⟩ := (still_iff h0).1 hb
    rw [hno es] at he
    cases he
theorem calm_elb {t : Trk} {ws : List Pt} (h0 : 0 < ws.length) (hne : elbsL t ws ≠ []) : elbV t ws (calmV (elbsL t ws)) = true ∧ ∀ es, elbV t ws es = true → movesV (calmV (elbsL t ws)) ≤ movesV es := by
  obtain ⟨hm, hle⟩ := calmV_spec hne
  exact ⟨(mem_elbsL h0).1 hm, fun es he => hle es ((mem_elbsL h0).2 he)⟩
theorem reachL_len (t : Trk) (a : Pt) : (reachL t a).length ≤ t.ps.length := by
  unfold reachL
  rw [List.length_map]
  refine Nat.le_trans (List.length_filter_le _ _) ?_
  simp
theorem flat_cnt {α β : Type} (f : α → List β) (m : Nat) : ∀ l : List α, (∀ x ∈ l, (f x).length ≤ m) → (l.flatMap f).length ≤ l.length * m
  | [], _ => by simp
  | x :: l, h => by
    rw [List.flatMap_cons, List.length_append, List.length_cons, Nat.succ_mul]
    have h1 := h x List.mem_cons_self
    have h2 := flat_cnt f m l (fun y hy => h y (List.mem_cons_of_mem _ hy))
    omega
theorem goL_cnt {t : Trk} {ws : List Pt} (h5 : t.ps.length ≤ 5) : ∀ (k : Nat) (pl : List Int), (goL t ws k pl).length ≤ 5 ^ k
  | 0, pl => by
    show (if _ then [pl] else []).length ≤ 1
    split <;> simp
  | k + 1, pl => by
    show ((reachL t (ptAt ws pl.length)).flatMap fun p => if 0 < pl.length ∧ nearB t (lastV pl) p = false then [] else goL t ws k (pl ++ [p])).length ≤ 5 ^ (k + 1)
    refine Nat.le_trans (flat_cnt _ (5 ^ k) _ fun p _ => ?_) ?_
    · split
      · simp
      · exact goL_cnt h5 k _
    · rw [Nat.pow_succ, Nat.mul_comm (5 ^ k)]
      exact Nat.mul_le_mul_right _ (Nat.le_trans (reachL_len t _) h5)
theorem insA_len (n : Int) : ∀ l : List Int, (insA n l).length ≤ l.length + 1
  | [] => by simp [insA]
  | x :: l => by
    show (if n < x then n :: x :: l else if n = x then x :: l else x :: insA n l).length ≤ _
    split
    · simp
    · split
      · simp
      · have := insA_len n l
        simp only [List.length_cons]
        omega
theorem foldA_len : ∀ (l a : List Int), (l.foldl (fun a n => insA n a) a).length ≤ a.length + l.length
  | [], a => by simp
  | n :: l, a => by
    rw [List.foldl_cons]
    have h1 := foldA_len l (insA n a)
    have h2 := insA_len n a
    rw [List.length_cons]
    omega
theorem rollsL_len {t : Trk} {ws : List Pt} (h5 : t.ps.length ≤ 5) (hw : ws.length ≤ 5) : (rollsL t ws).length ≤ 10000 := by
  unfold rollsL ascOf
  have h1 := foldA_len ((elbsL t ws).map (sweepV t ws)) []
  rw [List.length_map] at h1
  have h2 : (elbsL t ws).length ≤ 5 ^ ws.length := goL_cnt h5 _ _
  have h3 : 5 ^ ws.length ≤ 5 ^ 5 := Nat.pow_le_pow_right (by decide) hw
  have h4 : (5 : Nat) ^ 5 = 3125 := by decide
  simp only [List.length_nil] at h1
  omega
end Wl
end Go.Proofs.Ytmjcdggmofohcaa
namespace Go.Proofs.Ytmjcdggmofohcaa
open Go.RowKit
namespace Wl
theorem far_lens {t : Trk} {ws : List Pt} (h : farB t ws = false) : t.ps.length ≤ 40 ∧ ws.length ≤ 40 := by
  unfold farB at h
  simp only [Bool.or_eq_false_iff, decide_eq_false_iff_not] at h
  omega
theorem ready_lens {t : Trk} {ws : List Pt} (h : readyB t ws = true) : t.ps.length ≤ 5 ∧ ws.length ≤ 5 ∧ chkV t ws = 0 := by
  unfold readyB farB at h
  by_cases hc : chkV t ws = 0
  · simp [hc] at h
    omega
  · simp [hc] at h
end Wl
set_option maxHeartbeats 1000000 in
theorem In_any (v : Value) (xs : List Int) (n : Int) (w : World) (hx : Ints w w.heap.size v xs) (hl : xs.length ≤ 1000000000) :
    Calls Try.prog 45 #[v, .int .i64 n] w fun e w' => e = .returned (.bool (decide (n ∈ xs))) ∧ w' = w := by
  obtain ⟨A, c, rfl⟩ := ints_form hx
  have HX := Lib.hid hx
  clear hx
  go_enter Try.func45, Try.ntmps45
  go_wp2_with fail
  go_loop [5] (fun x => ∃ k : Nat, (k : Int) ≤ xs.length ∧ x = .int .i64 k ∧ Hid (∀ i y, i < k → xs[i]? = some y → y ≠ n)) (fun x => (xs.length - intOf x).toNat)
  case atStart => exact ⟨0, by omega, rfl, fun i y hi => by omega⟩
  case round =>
    obtain ⟨k, hk, rfl, hall⟩ := hrel
    have hk0 := Int.natCast_nonneg k
    by_cases hlt : (k : Int) < xs.length
    · have hkl : k < xs.length := by omega
      have hgk : xs[k]? = some xs[k] := List.getElem?_eq_getElem hkl
      rcases HX.out with ⟨_, e⟩ | ⟨b, off, cap, e, hb, hc⟩
      · subst e; simp at hkl
      · injection e with eA _ ec
        subst eA ec
        have c0 := hc k _ hgk
        have HK := Lib.hid hgk
        clear hc hgk HX
        generalize xs[k] = x at *
        by_cases hxn : x = n
        · have hxB : (x == n) = true := by simpa using hxn
          have hin : Hid (n ∈ xs) := by rw [← hxn]; exact List.mem_of_getElem? HK.out
          clear hxn
          go_wp2_with fail
          go_ret
          exact ⟨ret_b (by simpa using hin.out), rfl⟩
        · have hxB : (x == n) = false := by simpa using hxn
          have hne := Lib.hid hxn
          clear hxn
          go_wp2_with fail
          go_round
          case rel => exact ⟨k + 1, by omega, by go_num, fun i y hi hy => by
            by_cases e : i = k
            · subst e
              rw [HK.out] at hy
              injection hy with hy
              subst hy
              exact hne.out
            · exact hall.out i y (by omega) hy⟩
          case measure => simp [intOf]; omega
    · have hno : Hid (¬ n ∈ xs) := fun h => by
        obtain ⟨i, hi, e⟩ := List.getElem_of_mem h
        exact hall.out i n (by omega) (by rw [← e]; exact List.getElem?_eq_getElem hi) rfl
      go_wp2_with fail
      go_ret
      exact ⟨ret_b (by simpa using hno.out), rfl⟩

set_option maxRecDepth 100000 in
set_option maxHeartbeats 4000000 in
theorem ready5_any (t : Wl.Trk) (ws : List Wl.Pt) (A Aw : Option Addr) (c cw : Nat) (w : World) (hP : Prs w w.heap.size A t.ps) (hQ : Prs w w.heap.size Aw ws) :
    Calls Try.prog 42 #[.agg (trV t A c), .slice Aw ws.length cw] w fun e w' => e = .returned (.bool (Wl.readyB t ws)) ∧ Below w.heap.size w w' := by
  have HF : Hid (∀ W, Below w.heap.size w W → Calls Try.prog 28 #[.agg (trV t A c), .slice Aw ws.length cw] W fun e w' => e = .returned (.bool (Wl.farB t ws)) ∧ Below W.heap.size W w') := fun W hW => Far5_any t ws A Aw c cw W (prs_keep hP hW) (prs_keep hQ hW)
  have HC : Hid (Wl.farB t ws = false → ∀ W, Below w.heap.size w W → Calls Try.prog 15 #[.agg (trV t A c), .slice Aw ws.length cw] W (ErrPost (Wl.chkV t ws) W)) := fun h W hW => by
    obtain ⟨h1, h2⟩ := Wl.far_lens h
    exact Check5_any t ws A Aw c cw (by omega) (by omega) W (prs_keep hP hW) (prs_keep hQ hW)
  have HR : Hid (Wl.readyB t ws = (!Wl.farB t ws && decide (Wl.chkV t ws = 0))) := rfl
  unfold ErrPost at HC
  generalize Wl.readyB t ws = RB at *
  generalize Wl.farB t ws = FB at *
  generalize Wl.chkV t ws = CE at *
  obtain ⟨ps, cl, lo, hi⟩ := t
  unfold trV at *
  dsimp only at *
  clear hP hQ
  go_enter Try.func42, Try.ntmps42
  go_wp2_with fail
  have bT := BoxS.new w 26 #[.slice A ps.length c, .int .i64 cl, .int .i64 lo, .int .i64 hi]
  have hB1 : Below w.heap.size w (w.alloc (.cells #[.slice A ps.length c, .int .i64 cl, .int .i64 lo, .int .i64 hi] 26)) := by (repeat' (first | (with_reducible exact Below.refl _ _) | (with_reducible assumption) | (with_reducible refine Below.alloc ?_ ?_ _) | (with_reducible refine Below.drew ?_) | (with_reducible refine Below.setCell ?_ ?_ _) | go_size | (exact (by simp)) | omega))
  generalize World.alloc w _ = w1 at *
  have t0 := bT.cell 0 rfl
  have t1 := bT.cell 1 rfl
  have t2 := bT.cell 2 rfl
  have t3 := bT.cell 3 rfl
  have lT := bT.lt
  try go_wp2_with fail
  refine (HF.out _ hB1).mono ?_
  rintro e w2 ⟨rfl, hb2⟩
  have hB2 := hB1.trans (hb2.mono hB1.size)
  have bT2 := bT.below hb2
  clear t0 t1 t2 t3 lT
  have t0 := bT2.cell 0 rfl
  have t1 := bT2.cell 1 rfl
  have t2 := bT2.cell 2 rfl
  have t3 := bT2.cell 3 rfl
  have lT := bT2.lt
  clear bT hB1 hb2
  cases FB with
  | true =>
    have HR1 : Hid (RB = false) := HR.out
    clear HR HC
    go_wp2_with fail
    go_returns
    exact ⟨by rw [HR1.out]; rfl, hB2⟩
  | false =>
    have HR1 : Hid (RB = decide (CE = 0)) := HR.out
    have HC1 := Lib.hid (HC.out rfl)
    clear HR HC
    go_wp2_with fail
    refine (HC1.out _ hB2).mono ?_
    rintro e w3 ⟨rfl, hb3⟩
    have hB3 := hB2.trans (hb3.mono hB2.size)
    go_wp2_with fail
    go_returns
    exact ⟨by rw [HR1.out]; rfl, hB3⟩
set_option maxRecDepth 100000 in
set_option maxHeartbeats 4000000 in
theorem Moves5_any (Ae : Option Addr) (ce : Nat) (es : List Int) (hl : es.length ≤ 1000000) (w : World) (hE : Ints w w.heap.size (.slice Ae es.length ce) es) :
    Calls Try.prog 37 #[.slice Ae es.length ce] w fun e w' => e = .returned (.int .i64 (Wl.movesV es)) ∧ Below w.heap.size w w' := by
  have HX := Lib.hid hE
  have HM : Hid (Wl.movesV es = Wl.mvTo es es.length) := rfl
  have hmo : Try.prog.follows .mixedOrders = true := by kernel_rfl
  clear hE
  generalize Wl.movesV es = MV at *
  go_enter Try.func37, Try.ntmps37
  go_wp2_with fail
  go_loopw [3, 4] (fun x y wr => ∃ k : Nat, (k : Int) ≤ es.length ∧ y = .int .i64 k ∧ x = .int .i64 (Wl.mvTo es k) ∧ Below w.heap.size w wr) (fun _ y _ => (es.length - intOf y).toNat)
  case atStart => exact ⟨0, by omega, rfl, rfl, Below.refl _ _⟩
  case round =>
    obtain ⟨k, hk, rfl, rfl, hB⟩ := hrel
    have hk0 := Int.natCast_nonneg k
    by_cases hlt : (k : Int) < es.length
    · have hkl : k < es.length := by omega
      have h0l : 0 < es.length := by omega
      have hnl : (k + 1) % es.length < es.length := Nat.mod_lt _ h0l
      have hg1 : es[k]? = some (Wl.esAt es k) := by unfold Wl.esAt; rw [List.getElem?_eq_getElem hkl]; rfl
      have hg2 : es[(k + 1) % es.length]? = some (Wl.esAt es ((k + 1) % es.length)) := by unfold Wl.esAt; rw [List.getElem?_eq_getElem hnl]; rfl
      have hst : Hid (Wl.mvTo es (k + 1) = Wl.mvTo es k + (if Wl.esAt es k = Wl.esAt es ((k + 1) % es.length) then 0 else 1)) := rfl
      have hmb := Wl.mvTo_nn es k
      rcases HX.out with ⟨_, e⟩ | ⟨b, off, cap, e, hb, hc⟩
      · subst e; simp at hkl
      · injection e with eA _ ec
        subst eA ec
        have q0 : Below wr.heap.size wr wr.drew := (Below.refl _ _).drew
        have KC : Hid (∀ W', Below wr.heap.size wr W' → W'.cell? ⟨b, off + k, none⟩ = some (.int .i64 (Wl.esAt es k)) ∧ W'.cell? ⟨b, off + (k + 1) % es.length, none⟩ = some (.int .i64 (Wl.esAt es ((k + 1) % es.length)))) := fun W' h => by
          have h2 := hB.trans (h.mono hB.size)
          exact ⟨(h2.cell (p := ⟨b, _, none⟩) hb).trans (hc k _ hg1), (h2.cell (p := ⟨b, _, none⟩) hb).trans (hc _ _ hg2)⟩
        have hr1 : ((k : Int) + 1) % (es.length : Int) = (((k + 1) % es.length : Nat) : Int) := by rw [Int.natCast_emod]; rfl
        have hr2 : ((k : Int) + 1).tmod (es.length : Int) = (((k + 1) % es.length : Nat) : Int) := by rw [Int.tmod_eq_emod_of_nonneg (by omega)]; exact hr1
        have hw1 : IntKind.i64.wrap ((k : Int) + 1) = (k : Int) + 1 := IntWalk.i64_in _ (by omega)
        have hne : ¬ (es.length : Int) = 0 := by omega
        have hne2 : ¬ es.length = 0 := by omega
        have hne3 : ¬ es = [] := by intro e; subst e; simp at hne2
        clear hc hg1 hg2 hr1 HX
        generalize Wl.esAt es ((k + 1) % es.length) = y at *
        generalize Wl.esAt es k = x at *
        generalize Wl.mvTo es k = m at *
        generalize (k + 1) % es.length = r at *
        have hw2 : IntKind.i64.wrap (r : Int) = (r : Int) := IntWalk.i64_in _ (by omega)
        have hr0 : (0 : Int) ≤ (r : Int) := Int.natCast_nonneg r
        have hrl : (r : Int) < (es.length : Int) := by omega
        have d1 : decide ((k : Int) < 0) = false := decide_eq_false (by omega)
        have d2 : decide ((es.length : Int) ≤ (k : Int)) = false := decide_eq_false (by omega)
        have d4 : decide (es.length ≤ k) = false := decide_eq_false (by omega)
        have d5 : decide ((r : Int) < 0) = false := decide_eq_false (by omega)
        have d6 : decide ((es.length : Int) ≤ (r : Int)) = false := decide_eq_false (by omega)
        have d7 : decide (es.length ≤ r) = false := decide_eq_false (by omega)
        by_cases hxy : x = y
        · have hxB : (x != y) = false := by simpa using hxy
          have hst1 : Hid (Wl.mvTo es (k + 1) = m) := by have := hst.out; rw [if_pos hxy, Int.add_zero] at this; exact this
          clear hxy hst
          go_wp2_with fail
          refine (wpIn_wide (n := 4)).1 ?_
          refine wpIn_region_held (fun W' => Below wr.heap.size wr W') 30 hmo ?_
          refine wpHeldIn_take (i := 0) (v := ?_) (plain_of (by kernel_rfl)) rfl (by kernel_rfl) (fun _ _ _ h => h) (yieldsSoIn_of (by kernel_rfl) ?_ (fun _ => rfl)) q0 ?_; rotate_left; focus (intro wq hw; clear hw; go_simp; try (with_reducible rfl))
          refine wpHeldIn_take (i := 1) (v := ?_) (plain_of (by kernel_rfl)) rfl (by kernel_rfl) (fun _ _ _ h => h) (yieldsSoIn_of (by kernel_rfl) ?_ (fun _ => rfl)) q0 ?_; rotate_left; focus (intro wq hw; clear hw; go_simp; try (with_reducible rfl))
          refine wpHeldIn_take (i := 2) (v := ?_) (plain_of (by kernel_rfl)) rfl (by kernel_rfl) (fun _ _ _ h => h) (yieldsSoIn_of (by kernel_rfl) ?_ (fun _ => rfl)) q0 ?_; rotate_left; focus (intro wq hw; clear hw; go_simp; try (with_reducible rfl))
          refine wpHeldIn_take (i := 3) (v := ?_) (plain_of (by kernel_rfl)) rfl (by kernel_rfl) (fun _ _ _ h => h) (yieldsSoIn_of (by kernel_rfl) ?_ (fun _ => rfl)) q0 ?_; rotate_left; focus (intro wq hw; have kq := KC.out wq hw; clear hw; go_simp; try (with_reducible rfl))
          refine wpHeldIn_take (i := 4) (v := ?_) (plain_of (by kernel_rfl)) rfl (by kernel_rfl) (fun _ _ _ h => h) (yieldsSoIn_of (by kernel_rfl) ?_ (fun _ => rfl)) q0 ?_; rotate_left; focus (intro wq hw; clear hw; go_simp; try (with_reducible rfl))
          refine wpHeldIn_take (i := 5) (v := ?_) (plain_of (by kernel_rfl)) rfl (by kernel_rfl) (fun _ _ _ h => h) (yieldsSoIn_of (by kernel_rfl) ?_ (fun _ => rfl)) q0 ?_; rotate_left; focus (intro wq hw; clear hw; go_simp; try (with_reducible rfl))
          refine wpHeldIn_take (i := 6) (v := ?_) (plain_of (by kernel_rfl)) rfl (by kernel_rfl) (fun _ _ _ h => h) (yieldsSoIn_of (by kernel_rfl) ?_ (fun _ => rfl)) q0 ?_; rotate_left; focus (intro wq hw; clear hw; go_simp; try (with_reducible rfl))
          refine wpHeldIn_take (i := 7) (v := ?_) (plain_of (by kernel_rfl)) rfl (by kernel_rfl) (fun _ _ _ h => h) (yieldsSoIn_of (by kernel_rfl) ?_ (fun _ => rfl)) q0 ?_; rotate_left; focus (intro wq hw; clear hw; go_simp; try (with_reducible rfl))
          refine wpHeldIn_take (i := 8) (v := ?_) (plain_of (by kernel_rfl)) rfl (by kernel_rfl) (fun _ _ _ h => h) (yieldsSoIn_of (by kernel_rfl) ?_ (fun _ => rfl)) q0 ?_; rotate_left; focus (intro wq hw; clear hw; go_simp; try (with_reducible rfl))
          refine wpHeldIn_take (i := 9) (v := ?_) (plain_of (by kernel_rfl)) rfl (by kernel_rfl) (fun _ _ _ h => h) (yieldsSoIn_of (by kernel_rfl) ?_ (fun _ => rfl)) q0 ?_; rotate_left; focus (intro wq hw; clear hw; go_simp; try (with_reducible rfl))
          refine wpHeldIn_take (i := 10) (v := ?_) (plain_of (by kernel_rfl)) rfl (by kernel_rfl) (fun _ _ _ h => h) (yieldsSoIn_of (by kernel_rfl) ?_ (fun _ => rfl)) q0 ?_; rotate_left; focus (intro wq hw; clear hw; go_simp; try (with_reducible rfl))
          refine wpHeldIn_take (i := 11) (v := ?_) (plain_of (by kernel_rfl)) rfl (by kernel_rfl) (fun _ _ _ h => h) (yieldsSoIn_of (by kernel_rfl) ?_ (fun _ => rfl)) q0 ?_; rotate_left; focus (intro wq hw; have kq := KC.out wq hw; clear hw; go_simp; try (with_reducible rfl))
          refine wpHeldIn_take (i := 12) (v := ?_) (plain_of (by kernel_rfl)) rfl (by kernel_rfl) (fun _ _ _ h => h) (yieldsSoIn_of (by kernel_rfl) ?_ (fun _ => rfl)) q0 ?_; rotate_left; focus (intro wq hw; clear hw; go_simp; try (with_reducible rfl))
          refine wpHeldIn_done (by kernel_rfl) ?_ _
          go_simp
          have hB1 : Below w.heap.size w wr.drew := hB.trans (q0.mono hB.size)
          go_wp2_with fail
          go_roundw
          case rel => exact ⟨k + 1, by omega, by go_num, by rw [hst1.out], hB1⟩
          case measure => simp [intOf]; omega
        · have hxB : (x != y) = true := by simpa using hxy
          have hw3 : IntKind.i64.wrap (m + 1) = m + 1 := IntWalk.i64_in _ (by omega)
          have hst1 : Hid (Wl.mvTo es (k + 1) = m + 1) := by have := hst.out; rw [if_neg hxy] at this; exact this
          clear hxy hst
          go_wp2_with fail
          refine (wpIn_wide (n := 4)).1 ?_
          refine wpIn_region_held (fun W' => Below wr.heap.size wr W') 30 hmo ?_
          refine wpHeldIn_take (i := 0) (v := ?_) (plain_of (by kernel_rfl)) rfl (by kernel_rfl) (fun _ _ _ h => h) (yieldsSoIn_of (by kernel_rfl) ?_ (fun _ => rfl)) q0 ?_; rotate_left; focus (intro wq hw; clear hw; go_simp; try (with_reducible rfl))
          refine wpHeldIn_take (i := 1) (v := ?_) (plain_of (by kernel_rfl)) rfl (by kernel_rfl) (fun _ _ _ h => h) (yieldsSoIn_of (by kernel_rfl) ?_ (fun _ => rfl)) q0 ?_; rotate_left; focus (intro wq hw; clear hw; go_simp; try (with_reducible rfl))
          refine wpHeldIn_take (i := 2) (v := ?_) (plain_of (by kernel_rfl)) rfl (by kernel_rfl) (fun _ _ _ h => h) (yieldsSoIn_of (by kernel_rfl) ?_ (fun _ => rfl)) q0 ?_; rotate_left; focus (intro wq hw; clear hw; go_simp; try (with_reducible rfl))
          refine wpHeldIn_take (i := 3) (v := ?_) (plain_of (by kernel_rfl)) rfl (by kernel_rfl) (fun _ _ _ h => h) (yieldsSoIn_of (by kernel_rfl) ?_ (fun _ => rfl)) q0 ?_; rotate_left; focus (intro wq hw; have kq := KC.out wq hw; clear hw; go_simp; try (with_reducible rfl))
          refine wpHeldIn_take (i := 4) (v := ?_) (plain_of (by kernel_rfl)) rfl (by kernel_rfl) (fun _ _ _ h => h) (yieldsSoIn_of (by kernel_rfl) ?_ (fun _ => rfl)) q0 ?_; rotate_left; focus (intro wq hw; clear hw; go_simp; try (with_reducible rfl))
          refine wpHeldIn_take (i := 5) (v := ?_) (plain_of (by kernel_rfl)) rfl (by kernel_rfl) (fun _ _ _ h => h) (yieldsSoIn_of (by kernel_rfl) ?_ (fun _ => rfl)) q0 ?_; rotate_left; focus (intro wq hw; clear hw; go_simp; try (with_reducible rfl))
          refine wpHeldIn_take (i := 6) (v := ?_) (plain_of (by kernel_rfl)) rfl (by kernel_rfl) (fun _ _ _ h => h) (yieldsSoIn_of (by kernel_rfl) ?_ (fun _ => rfl)) q0 ?_; rotate_left; focus (intro wq hw; clear hw; go_simp; try (with_reducible rfl))
          refine wpHeldIn_take (i := 7) (v := ?_) (plain_of (by kernel_rfl)) rfl (by kernel_rfl) (fun _ _ _ h => h) (yieldsSoIn_of (by kernel_rfl) ?_ (fun _ => rfl)) q0 ?_; rotate_left; focus (intro wq hw; clear hw; go_simp; try (with_reducible rfl))
          refine wpHeldIn_take (i := 8) (v := ?_) (plain_of (by kernel_rfl)) rfl (by kernel_rfl) (fun _ _ _ h => h) (yieldsSoIn_of (by kernel_rfl) ?_ (fun _ => rfl)) q0 ?_; rotate_left; focus (intro wq hw; clear hw; go_simp; try (with_reducible rfl))
          refine wpHeldIn_take (i := 9) (v := ?_) (plain_of (by kernel_rfl)) rfl (by kernel_rfl) (fun _ _ _ h => h) (yieldsSoIn_of (by kernel_rfl) ?_ (fun _ => rfl)) q0 ?_; rotate_left; focus (intro wq hw; clear hw; go_simp; try (with_reducible rfl))
          refine wpHeldIn_take (i := 10) (v := ?_) (plain_of (by kernel_rfl)) rfl (by kernel_rfl) (fun _ _ _ h => h) (yieldsSoIn_of (by kernel_rfl) ?_ (fun _ => rfl)) q0 ?_; rotate_left; focus (intro wq hw; clear hw; go_simp; try (with_reducible rfl))
          refine wpHeldIn_take (i := 11) (v := ?_) (plain_of (by kernel_rfl)) rfl (by kernel_rfl) (fun _ _ _ h => h) (yieldsSoIn_of (by kernel_rfl) ?_ (fun _ => rfl)) q0 ?_; rotate_left; focus (intro wq hw; have kq := KC.out wq hw; clear hw; go_simp; try (with_reducible rfl))
          refine wpHeldIn_take (i := 12) (v := ?_) (plain_of (by kernel_rfl)) rfl (by kernel_rfl) (fun _ _ _ h => h) (yieldsSoIn_of (by kernel_rfl) ?_ (fun _ => rfl)) q0 ?_; rotate_left; focus (intro wq hw; clear hw; go_simp; try (with_reducible rfl))
          refine wpHeldIn_done (by kernel_rfl) ?_ _
          go_simp
          have hB1 : Below w.heap.size w wr.drew := hB.trans (q0.mono hB.size)
          go_wp2_with fail
          go_roundw
          case rel => exact ⟨k + 1, by omega, by go_num, by rw [hst1.out], hB1⟩
          case measure => simp [intOf]; omega
    · have hke : k = es.length := by omega
      subst hke
      go_wp2_with fail
      go_returns
      exact ⟨by rw [HM.out]; rfl, hB⟩
end Go.Proofs.Ytmjcdggmofohcaa
