/- Sheets: plain facts of two sheets whose truths correspond: what is read of them depends on the truths alone. The turned sheet has the turned truths. -/
import Derived.Test.YtgpmnkdagpcffaaTruP
import Derived.Test.YtgpmnkdagpcffaaArea
import Derived.Test.YtgpmnkdagpcffaaLen
import Derived.Test.YtgpmnkdagpcffaaKn
import Derived.Test.YtgpmnkdagpcffaaShY
namespace Go.Proofs.Ytgpmnkdagpcffaa
namespace Sh
theorem lowF_le_of (N D N' D' : FaS → Int) (L L' : List FaS) (hb : ∀ x ∈ L, (N x).tdiv (D x) ≤ 9223372036854775807) (h : ∀ x ∈ L, ∃ y ∈ L', (N' y).tdiv (D' y) = (N x).tdiv (D x)) (hne : L ≠ []) : lowF N' D' L' ≤ lowF N D L := by
  refine low_ge N D L ?_ (fun x hx => ?_)
  · cases L with
    | nil => exact absurd rfl hne
    | cons a l =>
      obtain ⟨y, hy, e⟩ := h a (List.mem_cons_self)
      have h1 := low_le N' D' L' hy
      have h2 := hb a (List.mem_cons_self)
      omega
  · obtain ⟨y, hy, e⟩ := h x hx
    have := low_le N' D' L' hy
    omega
theorem highF_le_of (N D N' D' : FaS → Int) (L L' : List FaS) (h0 : 0 ≤ highF N' D' L') (h : ∀ x ∈ L, ∃ y ∈ L', (N' y + D' y - 1).tdiv (D' y) = (N x + D x - 1).tdiv (D x)) : highF N D L ≤ highF N' D' L' := by
  refine high_le N D L h0 (fun x hx => ?_)
  obtain ⟨y, hy, e⟩ := h x hx
  have := high_ge N' D' L' hy
  omega
theorem highF_nonneg (N D : FaS → Int) (L : List FaS) : 0 ≤ highF N D L := by
  have H : ∀ (L : List FaS) (a : Int), 0 ≤ a → 0 ≤ L.foldl (fun h x => highS h ((N x + D x - 1).tdiv (D x))) a := by
    intro L
    induction L with
    | nil => exact fun a h => h
    | cons x l ih => exact fun a h => ih _ (by show 0 ≤ highS a _; unfold highS; split <;> omega)
  exact H L 0 (Int.le_refl _)
theorem all_iff_of {b b' : FaS → Bool} {L L' : List FaS} (h : ∀ x ∈ L, ∃ y ∈ L', b' y = b x) (h' : ∀ y ∈ L', ∃ x ∈ L, b x = b' y) : L.all b = L'.all b' := by
  rw [Bool.eq_iff_iff, List.all_eq_true, List.all_eq_true]
  exact ⟨fun H y hy => by obtain ⟨x, hx, e⟩ := h' y hy; rw [← e]; exact H x hx, fun H x hx => by obtain ⟨y, hy, e⟩ := h x hx; rw [← e]; exact H y hy⟩
theorem any_iff_of {b b' : FaS → Bool} {L L' : List FaS} (h : ∀ x ∈ L, ∃ y ∈ L', b' y = b x) (h' : ∀ y ∈ L', ∃ x ∈ L, b x = b' y) : L.any b = L'.any b' := by
  rw [Bool.eq_iff_iff, List.any_eq_true, List.any_eq_true]
  exact ⟨fun ⟨x, hx, H⟩ => by obtain ⟨y, hy, e⟩ := h x hx; exact ⟨y, hy, by rw [e]; exact H⟩, fun ⟨y, hy, H⟩ => by obtain ⟨x, hx, e⟩ := h' y hy; exact ⟨x, hx, by rw [e]; exact H⟩⟩
theorem known_of {b b' : FaS → Bool} {L L' : List FaS} (h : ∀ x ∈ L, ∃ y ∈ L', b' y = b x) (h' : ∀ y ∈ L', ∃ x ∈ L, b x = b' y) : knownV b L = knownV b' L' := by
  unfold knownV
  rw [all_iff_of h h', any_iff_of h h']
theorem facTo_of {way way' : Int} {L L' : List FaS} (h : ∀ x ∈ L, ∃ y ∈ L', ofV y.1 way' = ofV x.1 way) (h' : ∀ y ∈ L', ∃ x ∈ L, ofV x.1 way = ofV y.1 way') : ∀ k, facTo way L k = facTo way' L' k
  | 0 => rfl
  | k + 1 => by
    have hk := facTo_of h h' k
    have ha : (L.any fun f => decide (ofV f.1 way = 900 + (k : Int))) = (L'.any fun f => decide (ofV f.1 way' = 900 + (k : Int))) :=
      any_iff_of (fun x hx => by obtain ⟨y, hy, e⟩ := h x hx; exact ⟨y, hy, by rw [e]⟩) (fun y hy => by obtain ⟨x, hx, e⟩ := h' y hy; exact ⟨x, hx, by rw [e]⟩)
    rw [facTo, facTo, ha, hk]

/-- Factors, turned. -/
def swF (f : Fa) : Fa := (f.2, f.1)
theorem swF_sm {f : Fa} (h : fsm f) : fsm (swF f) := ⟨h.2, h.1⟩
def swS (f : FaS) : FaS := ⟨swF f.1, swF_sm f.2⟩
theorem swS_swS (f : FaS) : swS (swS f) = f := rfl
/-- A control, turned. -/
def swC (c : Ct) : Ct := (3 - c.1, c.2.1, c.2.2.1, c.2.2.2)
/-- A sheet, turned. -/
def swSh (s : Sheet) : Sheet := ⟨s.bl, s.bh, s.al, s.ah, s.cs.map swC, s.wr⟩
theorem way_sw {n : Int} (h : wayB n = true) : wayB (3 - n) = true := by
  unfold wayB at *
  simp only [Bool.or_eq_true, decide_eq_true_eq] at *
  omega
theorem ofV_sw (f : Fa) {n : Int} (h : wayB n = true) : ofV (swF f) (3 - n) = ofV f n := by
  unfold wayB at h
  simp only [Bool.or_eq_true, decide_eq_true_eq] at h
  rcases h with rfl | rfl <;> rfl
theorem ctB_way {c : Ct} (h : ctB c = true) : wayB c.1 = true := by
  unfold ctB at h
  simp only [Bool.and_eq_true] at h
  exact h.1.1.1
theorem ctB_sw {c : Ct} (h : ctB c = true) : ctB (swC c) = true := by
  have hw := way_sw (ctB_way h)
  unfold ctB at *
  simp only [Bool.and_eq_true] at *
  exact ⟨⟨⟨hw, h.1.1.2⟩, h.1.2⟩, h.2⟩
theorem fitB_sw (f : Fa) {c : Ct} (h : ctB c = true) : fitB (swF f) (swC c) = fitB f c := by
  unfold fitB swC
  dsimp only
  rw [ofV_sw f (ctB_way h)]
theorem ctAt_sw (cs : List Ct) {k : Nat} (h : k < cs.length) : ctAt (cs.map swC) k = swC (ctAt cs k) := by
  unfold ctAt
  rw [List.getElem?_map, List.getElem?_eq_getElem h]
  rfl
theorem wrongTo_sw (f : Fa) {cs : List Ct} (h : ∀ k, k < cs.length → ctB (ctAt cs k) = true) : ∀ k, k ≤ cs.length → wrongTo (swF f) (cs.map swC) k = wrongTo f cs k
  | 0, _ => rfl
  | k + 1, hk => by
    rw [wrongTo_succ, wrongTo_succ, wrongTo_sw f h k (by omega), ctAt_sw cs (by omega), fitB_sw f (h k (by omega))]
theorem wrongN_sw (f : Fa) {cs : List Ct} (h : ∀ k, k < cs.length → ctB (ctAt cs k) = true) : wrongN (swF f) (cs.map swC) = wrongN f cs := by
  unfold wrongN
  rw [List.length_map]
  exact wrongTo_sw f h _ (Nat.le_refl _)
theorem ok_sw {s : Sheet} (hs : Ok s) : Ok (swSh s) :=
  ⟨hs.b1, hs.b2, hs.b3, hs.a1, hs.a2, hs.a3, by show (s.cs.map swC).length ≤ 8; rw [List.length_map]; exact hs.n,
    fun k hk => by
      have hk' : k < s.cs.length := by have : k < (s.cs.map swC).length := hk; rwa [List.length_map] at this
      show ctB (ctAt (s.cs.map swC) k) = true
      rw [ctAt_sw _ hk']
      exact ctB_sw (hs.c k hk'), hs.w1, hs.w2⟩
theorem swSh_swSh (s : Sheet) : swSh (swSh s) = s := by
  obtain ⟨al, ah, bl, bh, cs, wr⟩ := s
  unfold swSh
  dsimp only
  congr 1
  rw [List.map_map]
  conv => rhs; rw [← List.map_id cs]
  congr 1
  funext c
  obtain ⟨a, b, c, d⟩ := c
  show (3 - (3 - a), b, c, d) = (a, b, c, d)
  rw [show (3 : Int) - (3 - a) = a by omega]
theorem mem_cases {s : Sheet} (hs : Ok s) (f : FaS) : f ∈ casesL s ↔ ((s.al ≤ f.1.1 ∧ f.1.1 ≤ s.ah) ∧ s.bl ≤ f.1.2 ∧ f.1.2 ≤ s.bh) := by
  have q1 := hs.a1
  have q2 := hs.a3
  have q3 := hs.b1
  have q4 := hs.b3
  have q5 := hs.a2
  have q6 := hs.b2
  unfold casesL casesTo rowTo na nb
  rw [List.mem_flatMap]
  constructor
  · rintro ⟨i, hi, h⟩
    rw [List.mem_range] at hi
    rw [List.mem_map] at h
    obtain ⟨j, hj, e⟩ := h
    rw [List.mem_range] at hj
    have hsm : fsm (s.al + (i : Int), s.bl + (j : Int)) := ⟨⟨by show 1 ≤ s.al + _; omega, by show s.al + _ ≤ _; omega⟩, by show 1 ≤ s.bl + _; omega, by show s.bl + _ ≤ _; omega⟩
    have e1 := faOf_val hsm
    rw [e] at e1
    rw [e1]
    exact ⟨⟨by show s.al ≤ s.al + _; omega, by show s.al + _ ≤ s.ah; omega⟩, by show s.bl ≤ s.bl + _; omega, by show s.bl + _ ≤ s.bh; omega⟩
  · rintro ⟨⟨h1, h2⟩, h3, h4⟩
    refine ⟨(f.1.1 - s.al).toNat, by rw [List.mem_range]; omega, ?_⟩
    rw [List.mem_map]
    refine ⟨(f.1.2 - s.bl).toNat, by rw [List.mem_range]; omega, ?_⟩
    have e : (s.al + ((f.1.1 - s.al).toNat : Int), s.bl + ((f.1.2 - s.bl).toNat : Int)) = f.1 := Prod.ext (by show s.al + _ = f.1.1; omega) (by show s.bl + _ = f.1.2; omega)
    apply Subtype.ext
    rw [e]
    exact faOf_val f.2
theorem mem_truths {s : Sheet} (hs : Ok s) (f : FaS) : f ∈ truthsL s ↔ ((s.al ≤ f.1.1 ∧ f.1.1 ≤ s.ah) ∧ s.bl ≤ f.1.2 ∧ f.1.2 ≤ s.bh) ∧ (wrongN f.1 s.cs : Int) ≤ s.wr := by
  unfold truthsL
  rw [List.mem_filter, mem_cases hs]
  unfold trB
  rw [decide_eq_true_eq]
theorem truths_sw {s : Sheet} (hs : Ok s) (f : FaS) : swS f ∈ truthsL (swSh s) ↔ f ∈ truthsL s := by
  rw [mem_truths (ok_sw hs), mem_truths hs]
  have e : wrongN (swS f).1 (swSh s).cs = wrongN f.1 s.cs := wrongN_sw f.1 hs.c
  rw [e]
  constructor
  · rintro ⟨⟨⟨h1, h2⟩, h3, h4⟩, h5⟩
    exact ⟨⟨⟨h3, h4⟩, h1, h2⟩, h5⟩
  · rintro ⟨⟨⟨h1, h2⟩, h3, h4⟩, h5⟩
    exact ⟨⟨⟨h3, h4⟩, h1, h2⟩, h5⟩
theorem truths_sw_to {s : Sheet} (hs : Ok s) : ∀ x ∈ truthsL s, ∃ y ∈ truthsL (swSh s), y = swS x := fun x hx => ⟨swS x, (truths_sw hs x).2 hx, rfl⟩
theorem truths_sw_from {s : Sheet} (hs : Ok s) : ∀ y ∈ truthsL (swSh s), ∃ x ∈ truthsL s, y = swS x := fun y hy => ⟨swS y, (truths_sw hs (swS y)).1 (by rw [swS_swS]; exact hy), (swS_swS y).symm⟩
theorem low_sw {s : Sheet} (hs : Ok s) (N D N' D' : FaS → Int) (hb : ∀ x, (N x).tdiv (D x) ≤ 9223372036854775807) (hb' : ∀ x, (N' x).tdiv (D' x) ≤ 9223372036854775807) (h : ∀ x, (N' (swS x)).tdiv (D' (swS x)) = (N x).tdiv (D x)) : lowF N' D' (truthsL (swSh s)) = lowF N D (truthsL s) := by
  by_cases he : truthsL s = []
  · have he' : truthsL (swSh s) = [] := by
      cases h' : truthsL (swSh s) with
      | nil => rfl
      | cons y l =>
        obtain ⟨x, hx, _⟩ := truths_sw_from hs y (by rw [h']; exact List.mem_cons_self)
        rw [he] at hx; cases hx
    rw [he, he']; rfl
  · have he' : truthsL (swSh s) ≠ [] := fun e => by
      cases h' : truthsL s with
      | nil => exact he h'
      | cons x l =>
        have := (truths_sw hs x).2 (by rw [h']; exact List.mem_cons_self)
        rw [e] at this; cases this
    refine Int.le_antisymm ?_ ?_
    · exact lowF_le_of N D N' D' _ _ (fun x _ => hb x) (fun x hx => ⟨swS x, (truths_sw hs x).2 hx, h x⟩) he
    · exact lowF_le_of N' D' N D _ _ (fun x _ => hb' x) (fun y hy => by obtain ⟨x, hx, rfl⟩ := truths_sw_from hs y hy; exact ⟨x, hx, (h x).symm⟩) he'
theorem high_sw {s : Sheet} (hs : Ok s) (N D N' D' : FaS → Int) (h : ∀ x, (N' (swS x) + D' (swS x) - 1).tdiv (D' (swS x)) = (N x + D x - 1).tdiv (D x)) : highF N' D' (truthsL (swSh s)) = highF N D (truthsL s) :=
  Int.le_antisymm
    (highF_le_of N' D' N D _ _ (highF_nonneg N D _) (fun y hy => by obtain ⟨x, hx, rfl⟩ := truths_sw_from hs y hy; exact ⟨x, hx, (h x).symm⟩))
    (highF_le_of N D N' D' _ _ (highF_nonneg N' D' _) (fun x hx => ⟨swS x, (truths_sw hs x).2 hx, h x⟩))
theorem known_sw {s : Sheet} (hs : Ok s) (b b' : FaS → Bool) (h : ∀ x ∈ truthsL s, b' (swS x) = b x) : knownV b' (truthsL (swSh s)) = knownV b (truthsL s) :=
  (known_of (fun x hx => ⟨swS x, (truths_sw hs x).2 hx, h x hx⟩) (fun y hy => by obtain ⟨x, hx, rfl⟩ := truths_sw_from hs y hy; exact ⟨x, hx, (h x hx).symm⟩)).symm
theorem fac_sw {s : Sheet} (hs : Ok s) {way : Int} (hw : wayB way = true) (k : Nat) : facTo (3 - way) (truthsL (swSh s)) k = facTo way (truthsL s) k :=
  (facTo_of (fun x hx => ⟨swS x, (truths_sw hs x).2 hx, ofV_sw x.1 hw⟩) (fun y hy => by obtain ⟨x, hx, rfl⟩ := truths_sw_from hs y hy; exact ⟨x, hx, (ofV_sw x.1 hw).symm⟩) k).symm
theorem cases_nodup {s : Sheet} (hs : Ok s) : (casesL s).Nodup := by
  have q1 := hs.a1
  have q2 := hs.a3
  have q3 := hs.b1
  have q4 := hs.b3
  have q5 := hs.a2
  have q6 := hs.b2
  have hsm : ∀ i j : Nat, i < na s → j < nb s → (faOf (s.al + (i : Int), s.bl + (j : Int))).1 = (s.al + (i : Int), s.bl + (j : Int)) := fun i j hi hj => by
    unfold na at hi
    unfold nb at hj
    exact faOf_val ⟨⟨by show 1 ≤ s.al + _; omega, by show s.al + _ ≤ _; omega⟩, by show 1 ≤ s.bl + _; omega, by show s.bl + _ ≤ _; omega⟩
  unfold casesL casesTo rowTo List.Nodup
  rw [List.pairwise_flatMap]
  constructor
  · intro i hi
    rw [List.mem_range] at hi
    rw [List.pairwise_map]
    refine List.Pairwise.imp_of_mem (R := fun a b => a < b) ?_ List.pairwise_lt_range
    intro a b ha hb hab e
    rw [List.mem_range] at ha hb
    have e1 := hsm i a hi ha
    rw [e, hsm i b hi hb] at e1
    injection e1 with _ e2
    omega
  · refine List.Pairwise.imp_of_mem (R := fun a b => a < b) ?_ List.pairwise_lt_range
    intro a b ha hb hab x hx y hy e
    rw [List.mem_range] at ha hb
    rw [List.mem_map] at hx hy
    obtain ⟨i, hi, rfl⟩ := hx
    obtain ⟨j, hj, rfl⟩ := hy
    rw [List.mem_range] at hi hj
    have e1 := hsm a i ha hi
    rw [e, hsm b j hb hj] at e1
    injection e1 with e2 _
    omega
theorem truths_nodup {s : Sheet} (hs : Ok s) : (truthsL s).Nodup := (cases_nodup hs).filter _
theorem len_sw {s : Sheet} (hs : Ok s) : (truthsL (swSh s)).length = (truthsL s).length := by
  have hn : ((truthsL s).map swS).Nodup := by
    unfold List.Nodup
    rw [List.pairwise_map]
    exact (truths_nodup hs).imp (fun {a b} h e => h (by have := congrArg swS e; rwa [swS_swS, swS_swS] at this))
  have hp := (List.perm_ext_iff_of_nodup (truths_nodup (ok_sw hs)) hn).2 (fun y => by
    rw [List.mem_map]
    constructor
    · intro hy
      obtain ⟨x, hx, rfl⟩ := truths_sw_from hs y hy
      exact ⟨x, hx, rfl⟩
    · rintro ⟨x, hx, rfl⟩
      exact (truths_sw hs x).2 hx)
  rw [hp.length_eq, List.length_map]
/-- A sheet that leaves less open: all that is so of it is so of the other one. -/
theorem low_sub (N D : FaS → Int) {L L' : List FaS} (h : ∀ x ∈ L, x ∈ L') (hb : ∀ x, (N x).tdiv (D x) ≤ 9223372036854775807) (hne : L ≠ []) : lowF N D L' ≤ lowF N D L := lowF_le_of N D N D _ _ (fun x _ => hb x) (fun x hx => ⟨x, h x hx, rfl⟩) hne
theorem high_sub (N D : FaS → Int) {L L' : List FaS} (h : ∀ x ∈ L, x ∈ L') : highF N D L ≤ highF N D L' := highF_le_of N D N D _ _ (highF_nonneg N D _) (fun x hx => ⟨x, h x hx, rfl⟩)
theorem known_sub (b : FaS → Bool) {L L' : List FaS} (h : ∀ x ∈ L, x ∈ L') (hne : L ≠ []) : knownV b L' = 3 ∨ knownV b L = knownV b L' := by
  unfold knownV
  cases h1 : L'.all b with
  | true =>
    right
    have : L.all b = true := by rw [List.all_eq_true] at *; exact fun x hx => h1 x (h x hx)
    rw [this, if_pos rfl, if_pos rfl]
  | false =>
    cases h2 : L'.any b with
    | true => left; rfl
    | false =>
      right
      have ha : L.any b = false := by
        rw [List.any_eq_false] at *
        exact fun x hx => h2 x (h x hx)
      have hal : L.all b = false := by
        cases L with
        | nil => exact absurd rfl hne
        | cons x l =>
          have : b x = false := by simpa using (List.any_eq_false.1 ha) x (List.mem_cons_self)
          rw [List.all_cons, this, Bool.false_and]
      rw [ha, hal]
theorem fac_sub {way : Int} {L L' : List FaS} (h : ∀ x ∈ L, x ∈ L') (k : Nat) {v : Int} (hv : v ∈ facTo way L k) : v ∈ facTo way L' k := by
  rw [facTo_mem] at *
  obtain ⟨h1, x, hx, e⟩ := hv
  exact ⟨h1, x, h x hx, e⟩
theorem len_sub {s s' : Sheet} (hs : Ok s) (h : ∀ x ∈ truthsL s, x ∈ truthsL s') : (truthsL s).length ≤ (truthsL s').length := by
  exact List.Nodup.length_le_of_subset (truths_nodup hs) h
theorem sub_of {s s' : Sheet} (hs : Ok s) (hs' : Ok s') (h1 : s.al ≤ s'.al) (h2 : s'.ah ≤ s.ah) (h3 : s.bl ≤ s'.bl) (h4 : s'.bh ≤ s.bh) (hw : s'.wr ≤ s.wr) (h : ∀ f : Fa, wrongN f s.cs ≤ wrongN f s'.cs) : ∀ x ∈ truthsL s', x ∈ truthsL s := by
  intro x hx
  rw [mem_truths hs'] at hx
  rw [mem_truths hs]
  obtain ⟨⟨⟨a1, a2⟩, a3, a4⟩, a5⟩ := hx
  have := h x.1
  exact ⟨⟨⟨by omega, by omega⟩, by omega, by omega⟩, by omega⟩
theorem wrongTo_mono (f : Fa) (cs cs' : List Ct) : ∀ k, (∀ j, j < k → fitB f (ctAt cs' j) = true → fitB f (ctAt cs j) = true) → wrongTo f cs k ≤ wrongTo f cs' k
  | 0, _ => Nat.le_refl _
  | k + 1, h => by
    have ih := wrongTo_mono f cs cs' k (fun j hj => h j (by omega))
    have hk := h k (by omega)
    rw [wrongTo_succ, wrongTo_succ]
    cases h1 : fitB f (ctAt cs' k) with
    | true => rw [hk h1]; simp; omega
    | false => cases fitB f (ctAt cs k) <;> simp <;> omega
theorem wrong_push (f : Fa) (cs : List Ct) (c : Ct) : wrongN f cs ≤ wrongN f (cs ++ [c]) := by
  have h1 := wrongTo_mono f cs (cs ++ [c]) cs.length (fun j hj hfit => by
    have e : ctAt (cs ++ [c]) j = ctAt cs j := by unfold ctAt; rw [List.getElem?_append_left hj]
    rw [e] at hfit; exact hfit)
  unfold wrongN
  rw [List.length_append, List.length_singleton, wrongTo_succ]
  omega
/-- A control that is off by less. -/
def lessC (c : Ct) (o : Int) : Ct := (c.1, c.2.1, c.2.2.1, c.2.2.2 - o)
theorem fit_less (f : Fa) (c : Ct) {o : Int} (ho : 0 ≤ o) (h : fitB f (lessC c o) = true) : fitB f c = true := by
  unfold fitB lessC at *
  rw [decide_eq_true_eq] at *
  dsimp only at *
  omega
theorem wrong_less (f : Fa) (cs : List Ct) (k : Nat) {o : Int} (ho : 0 ≤ o) : wrongN f cs ≤ wrongN f (cs.set k (lessC (ctAt cs k) o)) := by
  unfold wrongN
  rw [List.length_set]
  refine wrongTo_mono f _ _ _ (fun j hj hfit => ?_)
  by_cases e : k = j
  · subst e
    have : ctAt (cs.set k (lessC (ctAt cs k) o)) k = lessC (ctAt cs k) o := by
      unfold ctAt
      rw [List.getElem?_set_self hj]; rfl
    rw [this] at hfit
    exact fit_less f _ ho hfit
  · have : ctAt (cs.set k (lessC (ctAt cs k) o)) j = ctAt cs j := by
      unfold ctAt
      rw [List.getElem?_set_ne e]
    rw [this] at hfit; exact hfit
end Sh
end Go.Proofs.Ytgpmnkdagpcffaa

namespace Go.Proofs.Ytgpmnkdagpcffaa
namespace Geo
/-- X and Y exchanged. -/
def swp (p : Pt) : Pt := (p.2, p.1)
theorem turn_swp (a b c : Pt) : turn (swp a) (swp b) (swp c) = - turn a b c := by unfold turn swp; grind
theorem swp_inj {p q : Pt} (h : swp p = swp q) : p = q := by
  unfold swp at h
  exact Prod.ext (congrArg Prod.snd h) (congrArg Prod.fst h)
theorem onB_swp (a b p : Pt) : onB (swp a) (swp b) (swp p) = onB a b p := by
  unfold onB
  rw [turn_swp, decide_eq_decide.2 (show - turn a b p = 0 ↔ turn a b p = 0 by omega), Bool.and_comm (btwB a.1 p.1 b.1)]
  rfl
theorem ne_swp (p q : Pt) : decide (swp p ≠ swp q) = decide (p ≠ q) := decide_eq_decide.2 ⟨fun h e => h (by rw [e]), fun h e => h (swp_inj e)⟩
theorem passB_swp (a b p : Pt) : passB (swp a) (swp b) (swp p) = passB a b p := by unfold passB; rw [onB_swp, ne_swp, ne_swp]
theorem partB_iff4 (a b c d : Pt) : partB a b c d = true ↔ (turn a b c < 0 ∧ 0 < turn a b d) ∨ (0 < turn a b c ∧ turn a b d < 0) := by unfold partB; simp
theorem partB_swp (a b c d : Pt) : partB (swp a) (swp b) (swp c) (swp d) = partB a b c d := by
  rw [Bool.eq_iff_iff, partB_iff4, partB_iff4, turn_swp, turn_swp]
  omega
def swp2 (s : Pt × Pt) : Pt × Pt := (swp s.1, swp s.2)
theorem badB_swp (s t : Pt × Pt) : badB (swp2 s) (swp2 t) = badB s t := by
  unfold badB swp2
  dsimp only
  rw [passB_swp, partB_swp, partB_swp]
theorem get_swp (ps : List Pt) (k : Nat) : (ps.map swp)[k]?.getD (0, 0) = swp (ps[k]?.getD (0, 0)) := by
  rw [List.getElem?_map]
  cases ps[k]? <;> rfl
theorem sides_swp (ps : List Pt) : sidesL (ps.map swp) = (sidesL ps).map swp2 := by
  unfold sidesL
  rw [List.map_map, List.length_map]
  refine List.map_congr_left (fun k _ => ?_)
  show (_, _) = (swp _, swp _)
  rw [get_swp, get_swp]
theorem ptB_swp (p : Pt) : ptB (swp p) = ptB p := by unfold ptB swp; rw [Bool.and_comm]
theorem difB_swp {ps : List Pt} (h : difB ps = true) : difB (ps.map swp) = true := by
  unfold difB at h
  obtain ⟨h1, h2⟩ := of_decide_eq_true h
  refine difB_yes ⟨fun p hp => ?_, ?_⟩
  · obtain ⟨q, hq, rfl⟩ := List.mem_map.1 hp
    rw [ptB_swp]; exact h1 q hq
  · unfold List.Nodup at *
    rw [List.pairwise_map]
    exact h2.imp (fun hne e => hne (swp_inj e))
theorem valid_swp {ps : List Pt} (h : validB ps = true) : validB (ps.map swp) = true := by
  unfold validB at *
  rw [Bool.and_eq_true, Bool.and_eq_true (difB ps)] at h
  obtain ⟨h1, h2, h3⟩ := h
  rw [List.length_map, h1, difB_swp h2, sides_swp, List.any_map]
  have e : (((fun s => ((sidesL ps).map swp2).any fun t => badB s t) ∘ swp2) : Pt × Pt → Bool) = fun s => (sidesL ps).any fun t => badB s t := by
    funext s
    show (((sidesL ps).map swp2).any fun t => badB (swp2 s) t) = _
    rw [List.any_map]
    congr 1
    funext t
    exact badB_swp s t
  rw [e, h3]; rfl
theorem sum_neg {α : Type} (f g : α → Int) (h : ∀ x, g x = - f x) : ∀ L : List α, (L.map g).sum = - (L.map f).sum
  | [] => rfl
  | x :: l => by
    have := sum_neg f g h l
    rw [List.map_cons, List.map_cons, List.sum_cons, List.sum_cons, this, h x]
    omega
theorem tot_swp (ps : List Pt) : tot fanV (ps.map swp) = - tot fanV ps := by
  unfold tot
  rw [sides_swp, List.map_map]
  exact sum_neg fanV (fanV ∘ swp2) (fun s => by
    show turn (swp s.1) (swp s.2) (0, 0) = _
    exact turn_swp s.1 s.2 (0, 0)) _
end Geo
namespace Sh
theorem dist_neg (t : Int) : dist (-t) 0 = dist t 0 := by unfold dist; omega
theorem areaN_neg (t : Int) : areaN (-t) = areaN t := by unfold areaN; rw [dist_neg]
theorem areaD_sw (f : FaS) : areaD (swS f) = areaD f := Int.mul_comm _ _
theorem sqD_sw (f : FaS) : sqD (swS f) = sqD f := Int.mul_comm _ _
theorem sqN_sw (x y : Int) (f : FaS) : sqN y x (swS f) = sqN x y f := by
  show (y * y * (f.1.1 * f.1.1) + x * x * (f.1.2 * f.1.2)) * 1000 * 1000 = (x * x * (f.1.2 * f.1.2) + y * y * (f.1.1 * f.1.1)) * 1000 * 1000
  rw [Int.add_comm]
theorem tdiv_big {a m : Int} (h0 : 0 ≤ a) (h : a ≤ m) (d : Int) : a.tdiv d ≤ m := by
  have := Int.tdiv_le_self d h0
  omega
theorem areaLo_sw {s : Sheet} (hs : Ok s) {t : Int} (ht : -80000000 ≤ t ∧ t ≤ 80000000) : areaLo (swSh s) (-t) = areaLo s t := by
  unfold areaLo
  have hb : ∀ x : FaS, ((fun _ => areaN t) x).tdiv (areaD x) ≤ 9223372036854775807 := fun x => by
    have h1 := areaN_bd ht
    have h2 := areaD_bd x
    exact tdiv_big (by dsimp only; omega) (by dsimp only; omega) _
  refine low_sw hs _ _ _ _ hb (fun x => ?_) (fun x => ?_)
  · rw [areaN_neg]; exact hb x
  · rw [areaN_neg, areaD_sw]
theorem areaHi_sw {s : Sheet} (hs : Ok s) (t : Int) : areaHi (swSh s) (-t) = areaHi s t := by
  unfold areaHi
  exact high_sw hs _ _ _ _ (fun x => by rw [areaN_neg, areaD_sw])
theorem lenLo_sw {s : Sheet} (hs : Ok s) {x y : Int} (h : sqOk x y) : lenLo (swSh s) y x = lenLo s x y := by
  unfold lenLo
  have hb : ∀ {x y : Int}, sqOk x y → ∀ f : FaS, (sqN x y f).tdiv (sqD f) ≤ 9223372036854775807 := fun {x y} h f => by
    have h1 := sqN_bd h f
    have h2 := sqD_bd f
    exact tdiv_big (by omega) (by omega) _
  exact low_sw hs _ _ _ _ (hb h) (hb ⟨h.2, h.1⟩) (fun f => by rw [sqN_sw, sqD_sw])
theorem lenHi_sw {s : Sheet} (hs : Ok s) (x y : Int) : lenHi (swSh s) y x = lenHi s x y := by
  unfold lenHi
  exact high_sw hs _ _ _ _ (fun f => by rw [sqN_sw, sqD_sw])
theorem sqN_neg (x y : Int) : sqN (-x) (-y) = sqN x y := by
  funext f
  unfold sqN
  rw [Int.neg_mul_neg, Int.neg_mul_neg]
theorem right_sw {s : Sheet} (hs : Ok s) {k : Nat} (hk : k < s.cs.length) : rightK (swSh s) k = rightK s k := by
  unfold rightK
  refine known_sw hs _ _ (fun x _ => ?_)
  show fitB (swF x.1) (ctAt (s.cs.map swC) k) = _
  rw [ctAt_sw _ hk]
  exact fitB_sw x.1 (hs.c k hk)
theorem strTo_of {K K' : Nat → Int} : ∀ k, (∀ j, j < k → K' j = K j) → strTo K' k = strTo K k
  | 0, _ => rfl
  | k + 1, h => by
    rw [strTo, strTo, h k (by omega), strTo_of k (fun j hj => h j (by omega))]
theorem sp_sw {s : Sheet} (hs : Ok s) : spE (swSh s) = spE s := by
  unfold spE
  rw [ok_mk hs, ok_mk (ok_sw hs), if_pos rfl, if_pos rfl]
  have h := len_sw hs
  by_cases e : truthsL s = []
  · rw [e] at h
    rw [if_pos e, if_pos (List.length_eq_zero_iff.1 h)]
  · rw [if_neg e, if_neg (fun e' => e (by rw [e'] at h; exact List.length_eq_zero_iff.1 h.symm))]
theorem str_sw {s : Sheet} (hs : Ok s) : strL (swSh s) = strL s := by
  unfold strL
  rw [sp_sw hs]
  have e : strTo (rightK (swSh s)) (swSh s).cs.length = strTo (rightK s) s.cs.length := by
    have hl : (swSh s).cs.length = s.cs.length := List.length_map ..
    rw [hl]
    exact strTo_of _ (fun j hj => right_sw hs hj)
  rw [e]
theorem many_sw {s : Sheet} (hs : Ok s) : manyV (swSh s) = manyV s := by
  unfold manyV
  rw [sp_sw hs, len_sw hs]
theorem facE_sw {s : Sheet} (hs : Ok s) {way : Int} (hw : wayB way = true) : facE (swSh s) (3 - way) = facE s way := by
  have h := sp_sw hs
  unfold spE at h
  rw [ok_mk hs, ok_mk (ok_sw hs), if_pos rfl, if_pos rfl] at h
  unfold facE knE
  rw [ok_mk hs, ok_mk (ok_sw hs), if_pos rfl, if_pos rfl, if_pos rfl, if_pos rfl, hw, way_sw hw, if_pos rfl, if_pos rfl]
  exact h
theorem facR_sw {s : Sheet} (hs : Ok s) {way : Int} (hw : wayB way = true) : facR (swSh s) (3 - way) = facR s way := by
  unfold facR
  rw [facE_sw hs hw, fac_sw hs hw]
end Sh
end Go.Proofs.Ytgpmnkdagpcffaa

namespace Go.Proofs.Ytgpmnkdagpcffaa
namespace Sh
theorem areaE_sw {s : Sheet} (hs : Ok s) {ps : List Geo.Pt} (hv : Geo.validB ps = true) : areaE (swSh s) (ps.map Geo.swp) = areaE s ps := by
  unfold areaE
  rw [ok_mk hs, ok_mk (ok_sw hs), hv, Geo.valid_swp hv, sp_sw hs]
  rfl
theorem areaLoE_sw {s : Sheet} (hs : Ok s) {ps : List Geo.Pt} (hv : Geo.validB ps = true) : areaLoE (swSh s) (ps.map Geo.swp) = areaLoE s ps := by
  have hT := tot_bd (f := Geo.fanV) (M := 8000000) (Geo.valid_sm hv) (fun s h1 h2 => by have := Geo.fan_bd h1 h2; omega)
  have hlen := Geo.valid_len hv
  unfold areaLoE
  rw [areaE_sw hs hv, Geo.tot_swp, areaLo_sw hs (by omega)]
theorem areaHiE_sw {s : Sheet} (hs : Ok s) {ps : List Geo.Pt} (hv : Geo.validB ps = true) : areaHiE (swSh s) (ps.map Geo.swp) = areaHiE s ps := by
  unfold areaHiE
  rw [areaE_sw hs hv, Geo.tot_swp, areaHi_sw hs]
theorem lenE_sw {s : Sheet} (hs : Ok s) (a b : Geo.Pt) : lenE (swSh s) (Geo.swp a) (Geo.swp b) = lenE s a b := by
  unfold lenE
  rw [ok_mk hs, ok_mk (ok_sw hs), Geo.ptB_swp, Geo.ptB_swp, sp_sw hs]
theorem len_ok {s : Sheet} {a b : Geo.Pt} (hs : Ok s) (h : lenE s a b = 0) : sqOk (b.1 - a.1) (b.2 - a.2) := by
  unfold lenE at h
  rw [ok_mk hs, if_pos rfl] at h
  cases h1 : (Geo.ptB a && Geo.ptB b) with
  | false => rw [h1] at h; simp at h
  | true =>
    rw [Bool.and_eq_true] at h1
    obtain ⟨ha, hb⟩ := h1
    unfold Geo.ptB inB at ha hb
    simp only [Bool.and_eq_true, decide_eq_true_eq] at ha hb
    unfold sqOk
    omega
theorem lenLoE_sw {s : Sheet} (hs : Ok s) (a b : Geo.Pt) : lenLoE (swSh s) (Geo.swp a) (Geo.swp b) = lenLoE s a b := by
  unfold lenLoE
  rw [lenE_sw hs]
  by_cases h : lenE s a b = 0
  · rw [if_pos h, if_pos h]
    exact lenLo_sw hs (len_ok hs h)
  · rw [if_neg h, if_neg h]
theorem lenHiE_sw {s : Sheet} (hs : Ok s) (a b : Geo.Pt) : lenHiE (swSh s) (Geo.swp a) (Geo.swp b) = lenHiE s a b := by
  unfold lenHiE
  rw [lenE_sw hs]
  by_cases h : lenE s a b = 0
  · rw [if_pos h, if_pos h]
    exact lenHi_sw hs _ _
  · rw [if_neg h, if_neg h]
end Sh
end Go.Proofs.Ytgpmnkdagpcffaa

namespace Go.Proofs.Ytgpmnkdagpcffaa
open Go.RowKit
theorem point_info4 : (Try.prog.info? 43).map (fun i => (i.zero, i.size, i.bytes)) = some (some (.agg #[.int .i64 0, .int .i64 0]), 2, 16) := by kernel_rfl
/-- 'out = append(out, p)' on a row of the call's own. -/
theorem wpList_pusht {ops : Array Oper} {rest : List Oper} {o : Oper} {a : Act} {Q : Exit → Act → World → Prop} {wr : World} (hgd : o.guard = none) (s y : Operand)
    (ho : o.op = .call { callee := .builtin .append, args := #[s, y], argTypes := #[27, 27] }) (g : Int × Int) (B : Nat) (v : Value) (n : Nat) (xs : List Value) (hs : a.eval s = v)
    (hx : a.eval y = .slice (some ⟨wr.heap.size, 0, none⟩) 1 1) (hown : wr.ownsRow B 43 2 v n xs) (hB : B ≤ wr.heap.size) (hn : n ≤ 100000)
    (h : ∀ v' w', w'.ownsRow B 43 2 v' (n + 1) (xs ++ flat [g]) → Below B wr w' → wpList Try.prog ops Q rest (a.put o.dst v') w') :
    wpList Try.prog ops Q (o :: rest) a (wr.alloc (.cells #[.int .i64 g.1, .int .i64 g.2] 43)) := by
  obtain ⟨i0, hi0, hz0, hz1, hz2⟩ := info_partsQ point_info4
  refine wpList_append_any _ hgd s y 27 ho B 43 i0 (.agg #[.int .i64 0, .int .i64 0]) 2 16 Try.underlying27 hi0 hz0 hz1 hz2 rfl (by decide) v n xs hs (hown.alloc _) (wr.heap.size + 1) (some ⟨wr.heap.size, 0, none⟩) 1 1 (flat [g]) hx (reads_q wr _ g) (flat_one [g]) (by simp only [maxLen]; omega) (by omega) (by simp; omega) ?_
  intro v' w' hown' hgr _
  exact h v' w' hown' (((Below.refl B wr).alloc hB _).grown hgr (by simp; omega) (fun j hj => (hown.lt j hj).1))
section
variable {F : Fence} {n : Nat}
/-- The same law in a held region. -/
theorem wpIn_pusht {o : Oper} {a : Act} {K : Act → World → Prop} {Q : Exit → Act → World → Prop} {wr : World} (s y : Operand)
    (ho : o.op = .call { callee := .builtin .append, args := #[s, y], argTypes := #[27, 27] }) (g : Int × Int) (B : Nat) (v : Value) (m : Nat) (xs : List Value) (hs : a.eval s = v)
    (hx : a.eval y = .slice (some ⟨wr.heap.size, 0, none⟩) 1 1) (hown : wr.ownsRow B 43 2 v m xs) (hB : B ≤ wr.heap.size) (hn : m ≤ 100000)
    (h : ∀ v' w', w'.ownsRow B 43 2 v' (m + 1) (xs ++ flat [g]) → Below B wr w' → K (a.put o.dst v') w') :
    o.wpIn F n Try.prog a (wr.alloc (.cells #[.int .i64 g.1, .int .i64 g.2] 43)) K Q := by
  obtain ⟨i0, hi0, hz0, hz1, hz2⟩ := info_partsQ point_info4
  obtain ⟨v', w', hrun, h2, h3, h4⟩ := run_append_any (P := Try.prog) (wr.alloc (.cells #[.int .i64 g.1, .int .i64 g.2] 43)) B 27 o.type 43 i0 (.agg #[.int .i64 0, .int .i64 0]) 2 16 Try.underlying27 hi0 hz0 hz1 hz2 rfl (by decide) v m xs (hown.alloc _) (wr.heap.size + 1) (some ⟨wr.heap.size, 0, none⟩) 1 1 (flat [g]) (reads_q wr _ g) (flat_one [g]) (by simp only [maxLen]; omega) (by omega) (by simp; omega)
  have hr : (execOp a.eval o).run Try.prog (wr.alloc (.cells #[.int .i64 g.1, .int .i64 g.2] 43)) = .ok (.value v') w' := by
    unfold execOp
    simp only [ho, resolve, invoke, builtin, Sem.run_bind, Sem.run_pure, Result.andThen_ok, List.map_toArray, List.map_cons, List.map_nil, hs, hx, hrun]
  refine ⟨fun f hf => ?_, ?_⟩
  · unfold Oper.about at hf
    simp only [ho, resolve, Sem.run_pure] at hf
    cases hf
  · rw [Oper.semAt_eq _ _ _ (fun c hc => by rw [ho] at hc; cases hc), hr]
    exact h v' w' h2 (((Below.refl B wr).alloc hB _).grown h3 (by simp; omega) (fun j hj => (hown.lt j hj).1))
end
theorem ownt_nil (w : World) (B : Nat) {L : List (Int × Int)} (h : L = []) : w.ownsRow B 43 2 (.slice none 0 0) L.length (flat L) := by subst h; exact ⟨rfl, .inl ⟨rfl, rfl⟩⟩
theorem prs_of_ownt {w : World} {B : Nat} {L : List (Int × Int)} {v : Value} (h : w.ownsRow B 43 2 v L.length (flat L)) : ∃ A c, v = .slice A L.length c ∧ Hid (Prs w w.heap.size A L) := by
  obtain ⟨A, c, rfl⟩ := own_form2 h
  exact ⟨A, c, rfl, Prs.of_reads (Reads.of_own h)⟩
namespace Sh
def swTo (ps : List (Int × Int)) (k : Nat) : List (Int × Int) := (ps.take k).map swF
theorem swTo_succ (ps : List (Int × Int)) {k : Nat} {p : Int × Int} (h : ps[k]? = some p) : swTo ps (k + 1) = swTo ps k ++ [(p.2, p.1)] := by
  unfold swTo
  rw [List.take_add_one, h, List.map_append]
  rfl
theorem swTo_len (ps : List (Int × Int)) (k : Nat) : (swTo ps k).length ≤ k := by
  unfold swTo
  rw [List.length_map, List.length_take]
  omega
theorem swTo_all (ps : List (Int × Int)) : swTo ps ps.length = ps.map swF := by unfold swTo; rw [List.take_length]
end Sh
set_option maxRecDepth 100000 in
set_option maxHeartbeats 4000000 in
theorem turned_any (A : Option Addr) (c : Nat) (ps : List (Int × Int)) (hl : ps.length ≤ 1000) (w : World) (hP : Prs w w.heap.size A ps) :
    Calls Try.prog 21 #[.slice A ps.length c] w (PrsPost (ps.map Sh.swF) w) := by
  have HP := Lib.hid hP
  have HALL := Lib.hid (Sh.swTo_all ps)
  have HSU : Hid (∀ k p, ps[k]? = some p → Sh.swTo ps (k + 1) = Sh.swTo ps k ++ [(p.2, p.1)]) := fun k p h => Sh.swTo_succ ps h
  have HLN : Hid (∀ k, (Sh.swTo ps k).length ≤ k) := fun k => Sh.swTo_len ps k
  have H0 : Hid (Sh.swTo ps 0 = []) := by unfold Hid Sh.swTo; rfl
  clear hP
  generalize ps.map Sh.swF = LL at *
  generalize Sh.swTo ps = T at *
  have hl2 : (ps.length : Int) ≤ 1000 := by omega
  go_enter Try.func21, Try.ntmps21
  go_wp2_with fail
  go_loopw [3, 4] (fun s x wr => ∃ k : Nat, (k : Int) ≤ ps.length ∧ x = .int .i64 k ∧ Below w.heap.size w wr ∧ wr.ownsRow w.heap.size 43 2 s (T k).length (flat (T k))) (fun _ x _ => (ps.length - intOf x).toNat)
  case atStart => exact ⟨0, by omega, rfl, Below.refl _ _, ownt_nil _ _ H0.out⟩
  case round =>
    obtain ⟨k, hk, rfl, hB, hown⟩ := hrel
    have hk0 := Int.natCast_nonneg k
    by_cases hlt : (k : Int) < ps.length
    · have hkn : k < ps.length := by omega
      obtain ⟨bb, off, rfl, hbb, hc⟩ := HP.out (by omega)
      have hgk := List.getElem?_eq_getElem hkn
      have HS1 := Lib.hid (HSU.out k _ hgk)
      obtain ⟨h0, h1⟩ := hc k _ hgk
      have a0 := (hB.cell (p := ⟨bb, _, none⟩) hbb).trans h0
      have a1 := (hB.cell (p := ⟨bb, _, none⟩) hbb).trans h1
      have hw1 : IntKind.i64.wrap ((k : Int) + 1) = (k : Int) + 1 := IntWalk.i64_in _ (by omega)
      have HO := Lib.hid hown
      have hln := HLN.out k
      have hBs := hB.size
      clear hown hc h0 h1 hgk
      generalize ps[k] = p at *
      obtain ⟨p0, p1⟩ := p
      dsimp only at a0 a1 HS1
      have hmo : Try.prog.follows .mixedOrders = true := by kernel_rfl
      have KC : Hid (∀ W', Below w.heap.size wr W' → W'.cell? ⟨bb, off + k * 2, none⟩ = some (.int .i64 p0) ∧ W'.cell? ⟨bb, off + k * 2 + 1, none⟩ = some (.int .i64 p1)) := fun W' hW => by
        exact ⟨(hW.cell (p := ⟨bb, _, none⟩) hbb).trans a0, (hW.cell (p := ⟨bb, _, none⟩) hbb).trans a1⟩
      have hki : (k : Int) < ps.length := hlt
      clear a0 a1
      go_wp2_with fail
      refine (wpIn_wide (n := 4)).1 ?_
      have q0 : Below w.heap.size wr wr.drew := (Below.refl _ _).drew
      refine wpIn_region_held (fun W' => Below w.heap.size wr W') 40 hmo ?_
      refine wpHeldIn_take (i := 0) (v := ?_) (plain_of (by kernel_rfl)) rfl (by kernel_rfl) (fun _ _ _ h => h) (yieldsSoIn_of (by kernel_rfl) ?_ (fun _ => rfl)) q0 ?_; rotate_left; focus (intro wq hw; clear hw; go_simp; try (with_reducible rfl))
      refine wpHeldIn_take (i := 1) (v := ?_) (plain_of (by kernel_rfl)) rfl (by kernel_rfl) (fun _ _ _ h => h) (yieldsSoIn_of (by kernel_rfl) ?_ (fun _ => rfl)) q0 ?_; rotate_left; focus (intro wq hw; clear hw; go_simp; try (with_reducible rfl))
      refine wpHeldIn_take (i := 2) (v := ?_) (plain_of (by kernel_rfl)) rfl (by kernel_rfl) (fun _ _ _ h => h) (yieldsSoIn_of (by kernel_rfl) ?_ (fun _ => rfl)) q0 ?_; rotate_left; focus (intro wq hw; clear hw; go_simp; try (with_reducible rfl))
      refine wpHeldIn_take (i := 3) (v := ?_) (plain_of (by kernel_rfl)) rfl (by kernel_rfl) (fun _ _ _ h => h) (yieldsSoIn_of (by kernel_rfl) ?_ (fun _ => rfl)) q0 ?_; rotate_left; focus (intro wq hw; clear hw; go_simp; try (with_reducible rfl))
      refine wpHeldIn_take (i := 4) (v := ?_) (plain_of (by kernel_rfl)) rfl (by kernel_rfl) (fun _ _ _ h => h) (yieldsSoIn_of (by kernel_rfl) ?_ (fun _ => rfl)) q0 ?_; rotate_left; focus (intro wq hw; clear hw; go_simp; try (with_reducible rfl))
      refine wpHeldIn_take (i := 5) (v := ?_) (plain_of (by kernel_rfl)) rfl (by kernel_rfl) (fun _ _ _ h => h) (yieldsSoIn_of (by kernel_rfl) ?_ (fun _ => rfl)) q0 ?_; rotate_left; focus (intro wq hw; have kq := KC.out wq hw; clear hw; go_simp; try (with_reducible rfl))
      refine wpHeldIn_take (i := 6) (v := ?_) (plain_of (by kernel_rfl)) rfl (by kernel_rfl) (fun _ _ _ h => h) (yieldsSoIn_of (by kernel_rfl) ?_ (fun _ => rfl)) q0 ?_; rotate_left; focus (intro wq hw; clear hw; go_simp; try (with_reducible rfl))
      refine wpHeldIn_take (i := 7) (v := ?_) (plain_of (by kernel_rfl)) rfl (by kernel_rfl) (fun _ _ _ h => h) (yieldsSoIn_of (by kernel_rfl) ?_ (fun _ => rfl)) q0 ?_; rotate_left; focus (intro wq hw; clear hw; go_simp; try (with_reducible rfl))
      refine wpHeldIn_take (i := 8) (v := ?_) (plain_of (by kernel_rfl)) rfl (by kernel_rfl) (fun _ _ _ h => h) (yieldsSoIn_of (by kernel_rfl) ?_ (fun _ => rfl)) q0 ?_; rotate_left; focus (intro wq hw; clear hw; go_simp; try (with_reducible rfl))
      refine wpHeldIn_take (i := 9) (v := ?_) (plain_of (by kernel_rfl)) rfl (by kernel_rfl) (fun _ _ _ h => h) (yieldsSoIn_of (by kernel_rfl) ?_ (fun _ => rfl)) q0 ?_; rotate_left; focus (intro wq hw; clear hw; go_simp; try (with_reducible rfl))
      refine wpHeldIn_take (i := 10) (v := ?_) (plain_of (by kernel_rfl)) rfl (by kernel_rfl) (fun _ _ _ h => h) (yieldsSoIn_of (by kernel_rfl) ?_ (fun _ => rfl)) q0 ?_; rotate_left; focus (intro wq hw; have kq := KC.out wq hw; clear hw; go_simp; try (with_reducible rfl))
      refine wpHeldIn_take (i := 11) (v := ?_) (plain_of (by kernel_rfl)) rfl (by kernel_rfl) (fun _ _ _ h => h) (yieldsSoIn_of (by kernel_rfl) ?_ (fun _ => rfl)) q0 ?_; rotate_left; focus (intro wq hw; clear hw; go_simp; try (with_reducible rfl))
      have q1 : Below w.heap.size wr (wr.drew.alloc (.cells #[.int .i64 p1, .int .i64 p0] 43)) := q0.alloc (by show _ ≤ wr.heap.size; omega) _
      refine wpHeldIn_one (i := 12) (by kernel_rfl) (by kernel_rfl) rfl (by kernel_rfl) (fun K' hK' => ?_); go_simp; refine hK' _ _ q1 ?_
      refine wpHeldIn_one (i := 13) (by kernel_rfl) (by kernel_rfl) rfl (by kernel_rfl) (fun K1 hK1 => ?_)
      refine wpIn_pusht (wr := wr.drew) (.tmp 11) (.tmp 23) rfl (p1, p0) w.heap.size _ _ _ rfl rfl HO.out (by show _ ≤ wr.heap.size; omega) (by omega) ?_
      intro v' w3 hown3 hb3
      have HO3 := Lib.hid hown3
      clear hown3
      have q2 := q0.trans hb3
      refine hK1 _ _ q2 ?_
      refine wpHeldIn_take (i := 14) (v := ?_) (plain_of (by kernel_rfl)) rfl (by kernel_rfl) (fun _ _ _ h => h) (yieldsSoIn_of (by kernel_rfl) ?_ (fun _ => rfl)) q2 ?_; rotate_left; focus (intro wq hw; clear hw; go_simp; try (with_reducible rfl))
      refine wpHeldIn_done (by kernel_rfl) ?_ _
      go_simp
      clear KC q0 q1
      go_wp2_with fail
      go_roundw
      case rel =>
        refine ⟨k + 1, by omega, by go_num, hB.trans q2, ?_⟩
        rw [HS1.out, flat_append, List.length_append]
        exact HO3.out
      case measure => simp [intOf]; omega
    · obtain rfl : k = ps.length := by omega
      rw [HALL.out] at hown
      obtain ⟨A', c', hv, hP'⟩ := prs_of_ownt hown
      have HV := Lib.hid hv
      clear hown hv hlt
      go_wp2_with fail
      go_returns
      exact ⟨A', c', by rw [HV.out]; rfl, hP', hB⟩
end Go.Proofs.Ytgpmnkdagpcffaa

namespace Go.Proofs.Ytgpmnkdagpcffaa
theorem flat4_cons (g : Sh.Ct) (cs : List Sh.Ct) : flat4 (g :: cs) = .int .i64 g.1 :: .int .i64 g.2.1 :: .int .i64 g.2.2.1 :: .int .i64 g.2.2.2 :: flat4 cs := by simp [flat4]
theorem flat4_set0 : ∀ (cs : List Sh.Ct) (k : Nat) (c : Sh.Ct) (_ : cs[k]? = some c) (v : Int), (flat4 cs).set (k * 4) (.int .i64 v) = flat4 (cs.set k (v, c.2))
  | [], k, c, h, v => by simp at h
  | g :: cs, 0, c, h, v => by
    have e : g = c := by simpa using h
    subst e
    rw [List.set_cons_zero, flat4_cons, flat4_cons, Nat.zero_mul, List.set_cons_zero]
  | g :: cs, k + 1, c, h, v => by
    have h' : cs[k]? = some c := by simpa using h
    have ih := flat4_set0 cs k c h' v
    rw [List.set_cons_succ, flat4_cons, flat4_cons, ← ih, show (k + 1) * 4 = k * 4 + 1 + 1 + 1 + 1 by omega, List.set_cons_succ, List.set_cons_succ, List.set_cons_succ, List.set_cons_succ]
theorem flat4_set3 : ∀ (cs : List Sh.Ct) (k : Nat) (c : Sh.Ct) (_ : cs[k]? = some c) (v : Int), (flat4 cs).set (k * 4 + 3) (.int .i64 v) = flat4 (cs.set k (c.1, c.2.1, c.2.2.1, v))
  | [], k, c, h, v => by simp at h
  | g :: cs, 0, c, h, v => by
    have e : g = c := by simpa using h
    subst e
    rw [List.set_cons_zero, flat4_cons, flat4_cons, Nat.zero_mul, Nat.zero_add, show (3 : Nat) = 0 + 1 + 1 + 1 by omega, List.set_cons_succ, List.set_cons_succ, List.set_cons_succ, List.set_cons_zero]
  | g :: cs, k + 1, c, h, v => by
    have h' : cs[k]? = some c := by simpa using h
    have ih := flat4_set3 cs k c h' v
    rw [List.set_cons_succ, flat4_cons, flat4_cons, ← ih, show (k + 1) * 4 + 3 = k * 4 + 3 + 1 + 1 + 1 + 1 by omega, List.set_cons_succ, List.set_cons_succ, List.set_cons_succ, List.set_cons_succ]
theorem flat4_append (cs ds : List Sh.Ct) : flat4 (cs ++ ds) = flat4 cs ++ flat4 ds := List.flatMap_append ..
namespace Sh
/-- The first k controls turned, the others as they were. -/
def swcTo (cs : List Ct) (k : Nat) : List Ct := (cs.take k).map swC ++ cs.drop k
theorem swcTo_zero (cs : List Ct) : swcTo cs 0 = cs := by unfold swcTo; simp
theorem swcTo_all (cs : List Ct) : swcTo cs cs.length = cs.map swC := by unfold swcTo; simp
theorem swcTo_len (cs : List Ct) (k : Nat) : (swcTo cs k).length = cs.length := by
  unfold swcTo
  rw [List.length_append, List.length_map, List.length_take, List.length_drop]
  omega
theorem swcTo_get {cs : List Ct} {k : Nat} (h : k < cs.length) : (swcTo cs k)[k]? = some cs[k] := by
  unfold swcTo
  rw [List.getElem?_append_right (by rw [List.length_map, List.length_take]; omega), List.length_map, List.length_take, Nat.min_eq_left (by omega), Nat.sub_self, List.getElem?_drop, Nat.add_zero, List.getElem?_eq_getElem h]
theorem swcTo_succ {cs : List Ct} {k : Nat} (h : k < cs.length) : (swcTo cs k).set k (3 - cs[k].1, cs[k].2) = swcTo cs (k + 1) := by
  unfold swcTo
  rw [List.set_append_right _ _ (by rw [List.length_map, List.length_take]; omega), List.length_map, List.length_take, Nat.min_eq_left (by omega), Nat.sub_self, List.drop_eq_getElem_cons h, List.set_cons_zero, List.take_add_one, List.getElem?_eq_getElem h, List.map_append]
  simp [swC]
end Sh
end Go.Proofs.Ytgpmnkdagpcffaa
