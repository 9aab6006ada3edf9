/- Sheets: the factors of a direction: each error, and the reference's list, which is the same. -/
import Derived.Test.YtgpmnkdagpcffaaFew
namespace Go.Proofs.Ytgpmnkdagpcffaa
open Go.RowKit Go.Shelf Go.Maps Go.Sort
namespace Sh
/-- A map's keys are numbers. -/
def IntK (D : DataW Empty) : Prop := ∃ es, D = .map es ∧ ∀ p ∈ es, ∃ x, p.1 = .int .i64 x
theorem intK_put {D : DataW Empty} (h : IntK D) (x : Int) (d : DataW Empty) : IntK (D.put (.int .i64 x) d) := by
  obtain ⟨es, rfl, hp⟩ := h
  refine ⟨_, rfl, fun p hp' => ?_⟩
  have := (WideShapes.insert_perm (Lit.int .i64 x, d) _).mem_iff.1 hp'
  rcases List.mem_cons.1 this with rfl | hm
  · exact ⟨x, rfl⟩
  · exact hp p (List.mem_filter.1 hm).1
theorem intK_map (way : Int) (L : List FaS) : IntK (mapD (H := Empty) way L) := by
  have key : ∀ (L : List FaS) (D : DataW Empty), IntK D → IntK (L.foldl (fun D x => D.put (.int .i64 (ofV x.1 way)) (.lit (.bool true))) D) := by
    intro L
    induction L with
    | nil => exact fun D h => h
    | cons x l ih => exact fun D h => ih _ (intK_put h _ _)
  exact key L _ ⟨[], rfl, fun p hp => by cases hp⟩
theorem mapD_set (way : Int) (L : List FaS) : mapD (H := Empty) way L = setOf (.lit (.bool true)) (L.map fun x => .int .i64 (ofV x.1 way)) := by
  unfold mapD setOf
  rw [List.foldl_map]
theorem lits (way : Int) (L : List FaS) : ∀ x ∈ (L.map fun x => Lit.int .i64 (ofV x.1 way)), WideAt.IsKeyLit x := by
  intro x hx
  rw [List.mem_map] at hx
  obtain ⟨f, _, rfl⟩ := hx
  trivial
/-- The sorted keys are the strictly ascending list of the same members. -/
theorem fac_eq (way : Int) (L : List FaS) {R : List Int} (hR : R.Pairwise (fun a b => a < b)) (hm : ∀ x, x ∈ R ↔ ∃ f ∈ L, ofV f.1 way = x) : facL way L = R := by
  have ht : Tidy (mapD (H := Empty) way L) := by rw [mapD_set]; exact tidy_setOf _ _ (lits way L)
  obtain ⟨es, he, hk⟩ := intK_map way L
  obtain ⟨es2, he2, hp⟩ := ht
  have hes : es2 = es := by rw [he] at he2; injection he2 with h; exact h.symm
  subst hes
  have hnd : R.Nodup := hR.imp (fun h => by omega)
  have hhas : ∀ x, x ∈ R ↔ has (.map es2) (.int .i64 x) = true := by
    intro x
    rw [hm x, ← he, mapD_set]
    unfold setOf
    rw [has_fold _ _ _ _ ⟨[], rfl⟩ (lits way L)]
    have h0 : has (DataW.map ([] : List (Lit × DataW Empty))) (.int .i64 x) = false := rfl
    rw [h0, Bool.false_or, List.any_map, List.any_eq_true]
    constructor
    · rintro ⟨f, hf, rfl⟩
      exact ⟨f, hf, by simp [Lit.sameKey]⟩
    · rintro ⟨f, hf, h⟩
      exact ⟨f, hf, by simpa [Lit.sameKey] using h⟩
  have hperm := perm_intKeys hp hk hnd hhas
  have h1 := mergeSort_of_perm_i hperm
  rw [List.mergeSort_of_pairwise (hR.imp (fun h => by simp only [leI, decide_eq_true_eq]; omega))] at h1
  unfold facL
  rw [he]
  exact h1.symm
/-- The numbers from 900 that are a factor in some case. -/
def facTo (way : Int) (L : List FaS) : Nat → List Int
  | 0 => []
  | k + 1 => if (L.any fun f => decide (ofV f.1 way = 900 + (k : Int))) then facTo way L k ++ [900 + (k : Int)] else facTo way L k
theorem facTo_yes {way : Int} {L : List FaS} {k : Nat} (h : (L.any fun f => decide (ofV f.1 way = 900 + (k : Int))) = true) : facTo way L (k + 1) = facTo way L k ++ [900 + (k : Int)] := by rw [facTo, if_pos h]
theorem facTo_no {way : Int} {L : List FaS} {k : Nat} (h : (L.any fun f => decide (ofV f.1 way = 900 + (k : Int))) = false) : facTo way L (k + 1) = facTo way L k := by rw [facTo, if_neg (by rw [h]; decide)]
theorem facTo_len (way : Int) (L : List FaS) : ∀ k, (facTo way L k).length ≤ k
  | 0 => Nat.le_refl _
  | k + 1 => by
    have := facTo_len way L k
    cases h : (L.any fun f => decide (ofV f.1 way = 900 + (k : Int))) with
    | true => rw [facTo_yes h]; simp; omega
    | false => rw [facTo_no h]; omega
theorem facTo_mem (way : Int) (L : List FaS) : ∀ (k : Nat) (x : Int), x ∈ facTo way L k ↔ (900 ≤ x ∧ x < 900 + (k : Int)) ∧ ∃ f ∈ L, ofV f.1 way = x
  | 0, x => by simp [facTo]; omega
  | k + 1, x => by
    have ih := facTo_mem way L k x
    cases h : (L.any fun f => decide (ofV f.1 way = 900 + (k : Int))) with
    | true =>
      rw [facTo_yes h, List.mem_append, ih]
      rw [List.any_eq_true] at h
      obtain ⟨f, hf, hx⟩ := h
      have hx := of_decide_eq_true hx
      constructor
      · rintro (⟨h1, h2⟩ | h1)
        · exact ⟨by omega, h2⟩
        · have e : x = 900 + (k : Int) := by simpa using h1
          exact ⟨by omega, f, hf, by rw [e]; exact hx⟩
      · rintro ⟨h1, h2⟩
        by_cases e : x = 900 + (k : Int)
        · exact .inr (by simpa using e)
        · exact .inl ⟨by omega, h2⟩
    | false =>
      rw [facTo_no h, ih]
      rw [List.any_eq_false] at h
      constructor
      · rintro ⟨h1, h2⟩
        exact ⟨by omega, h2⟩
      · rintro ⟨h1, f, hf, h2⟩
        have := h f hf
        refine ⟨?_, f, hf, h2⟩
        have : ¬ ofV f.1 way = 900 + (k : Int) := fun e => this (decide_eq_true e)
        omega
theorem facTo_sorted (way : Int) (L : List FaS) : ∀ k, (facTo way L k).Pairwise (fun a b => a < b)
  | 0 => List.Pairwise.nil
  | k + 1 => by
    have ih := facTo_sorted way L k
    cases h : (L.any fun f => decide (ofV f.1 way = 900 + (k : Int))) with
    | true =>
      rw [facTo_yes h, List.pairwise_append]
      refine ⟨ih, by simp, fun a ha b hb => ?_⟩
      have := (facTo_mem way L k a).1 ha
      have e : b = 900 + (k : Int) := by simpa using hb
      omega
    | false => rw [facTo_no h]; exact ih
theorem of_in {s : Sheet} (hs : Ok s) {f : FaS} (h : f ∈ truthsL s) {way : Int} : 900 ≤ ofV f.1 way ∧ ofV f.1 way < 900 + 201 := by
  have hc := cases_in hs (List.mem_filter.1 h).1
  have h1 := hs.a1
  have h2 := hs.a3
  have h3 := hs.b1
  have h4 := hs.b3
  unfold ofV
  split <;> omega
theorem fac_ref {s : Sheet} (hs : Ok s) (way : Int) : facL way (truthsL s) = facTo way (truthsL s) 201 :=
  fac_eq way _ (facTo_sorted way _ 201) (fun x => by
    rw [facTo_mem]
    constructor
    · exact fun h => h.2
    · rintro ⟨f, hf, rfl⟩
      exact ⟨of_in hs hf, f, hf, rfl⟩)
def facE (s : Sheet) (way : Int) : Int := knE s 0 (wayB way)
def facR (s : Sheet) (way : Int) : List Int := if facE s way = 0 then facTo way (truthsL s) 201 else []
theorem facR_len (s : Sheet) (way : Int) : (facR s way).length ≤ 201 := by
  unfold facR
  split
  · exact facTo_len _ _ _
  · simp
end Sh

set_option maxRecDepth 100000 in
set_option maxHeartbeats 4000000 in
theorem Factors_bad (s : Sheet) (way : Int) (A : Option Addr) (c : Nat) (w : World) (hl : s.cs.length ≤ 1000000000) (hg : Cts w w.heap.size A s.cs) (hok : Sh.okB s = false) :
    Calls Try.prog 22 #[.agg (shV s A c), .int .i64 way] w (IntsEPost [] 40 w) := by
  have HC : Hid (∀ W, Below w.heap.size w W → Calls Try.prog 41 #[.agg (shV s A c)] W (ErrPost (Sh.chkE s) W)) := fun W hW => shCheck_any s A c W hl ((hg.keep hW).wider hW.size)
  have HP : Hid (∀ W, Below w.heap.size w W → Calls Try.prog 60 #[.agg (shV s A c)] W (SpPost (Sh.spV s A c) (Sh.spE s) W)) := fun W hW => spread_any s A c W hl ((hg.keep hW).wider hW.size)
  have HW : Hid (∀ W, Calls Try.prog 63 #[.int .i64 way] W fun e w' => e = .returned (.bool (Sh.wayB way)) ∧ w' = W) := fun W => isWay_any way W
  rw [Sh.chkE_no hok] at HC
  clear HP HW
  clear hg hl hok
  obtain ⟨al, ah, bl, bh, cs, wrn⟩ := s
  unfold shV at *
  dsimp only at *
  go_enter Try.func22, Try.ntmps22
  go_wp2_with fail
  have bS1 := (BoxS.new w 26 #[.int .i64 al, .int .i64 ah, .int .i64 bl, .int .i64 bh, .slice A cs.length c, .int .i64 wrn]).alloc (.cells #[.int .i64 way] 3)
  have bW1 := BoxS.new (w.alloc (.cells #[.int .i64 al, .int .i64 ah, .int .i64 bl, .int .i64 bh, .slice A cs.length c, .int .i64 wrn] 26)) 3 #[.int .i64 way]
  rw [World.size_alloc] at bW1
  have hB1 : Below w.heap.size w ((w.alloc (.cells #[.int .i64 al, .int .i64 ah, .int .i64 bl, .int .i64 bh, .slice A cs.length c, .int .i64 wrn] 26)).alloc (.cells #[.int .i64 way] 3)) := by (repeat' (first | (with_reducible exact Below.refl _ _) | (with_reducible assumption) | (with_reducible refine Below.alloc ?_ ?_ _) | (with_reducible refine Below.drew ?_) | (with_reducible refine Below.setCell ?_ ?_ _) | go_size | (exact (by simp)) | omega))
  generalize World.alloc (World.alloc w _) _ = w1 at *
  refine (HC.out _ hB1).mono ?_
  rintro e w2 ⟨rfl, hb2⟩
  have bS2 := bS1.below hb2
  have bW2 := bW1.below hb2
  have hB2 := hB1.trans (hb2.mono hB1.size)
  clear bS1 bW1 hb2 hB1 HC
  have w0 := bW2.cell 0 rfl
  obtain ⟨⟨s0, s1, s2⟩, s3, s4, s5⟩ := boxS6 bS2
  go_wp2_with fail
  go_returns
  exact ⟨.slice none 0 0, rfl, .inl ⟨rfl, rfl⟩, hB2⟩

set_option maxRecDepth 100000 in
set_option maxHeartbeats 4000000 in
theorem Factors_way (s : Sheet) (way : Int) (A : Option Addr) (c : Nat) (w : World) (hl : s.cs.length ≤ 1000000000) (hg : Cts w w.heap.size A s.cs) (hok : Sh.okB s = true) (hw : Sh.wayB way = false) :
    Calls Try.prog 22 #[.agg (shV s A c), .int .i64 way] w (IntsEPost [] 1 w) := by
  have HC : Hid (∀ W, Below w.heap.size w W → Calls Try.prog 41 #[.agg (shV s A c)] W (ErrPost (Sh.chkE s) W)) := fun W hW => shCheck_any s A c W hl ((hg.keep hW).wider hW.size)
  have HP : Hid (∀ W, Below w.heap.size w W → Calls Try.prog 60 #[.agg (shV s A c)] W (SpPost (Sh.spV s A c) (Sh.spE s) W)) := fun W hW => spread_any s A c W hl ((hg.keep hW).wider hW.size)
  have HW : Hid (∀ W, Calls Try.prog 63 #[.int .i64 way] W fun e w' => e = .returned (.bool (Sh.wayB way)) ∧ w' = W) := fun W => isWay_any way W
  rw [Sh.chkE_yes hok] at HC
  rw [hw] at HW
  clear HP
  clear hg hl hok hw
  obtain ⟨al, ah, bl, bh, cs, wrn⟩ := s
  unfold shV at *
  dsimp only at *
  go_enter Try.func22, Try.ntmps22
  go_wp2_with fail
  have bS1 := (BoxS.new w 26 #[.int .i64 al, .int .i64 ah, .int .i64 bl, .int .i64 bh, .slice A cs.length c, .int .i64 wrn]).alloc (.cells #[.int .i64 way] 3)
  have bW1 := BoxS.new (w.alloc (.cells #[.int .i64 al, .int .i64 ah, .int .i64 bl, .int .i64 bh, .slice A cs.length c, .int .i64 wrn] 26)) 3 #[.int .i64 way]
  rw [World.size_alloc] at bW1
  have hB1 : Below w.heap.size w ((w.alloc (.cells #[.int .i64 al, .int .i64 ah, .int .i64 bl, .int .i64 bh, .slice A cs.length c, .int .i64 wrn] 26)).alloc (.cells #[.int .i64 way] 3)) := by (repeat' (first | (with_reducible exact Below.refl _ _) | (with_reducible assumption) | (with_reducible refine Below.alloc ?_ ?_ _) | (with_reducible refine Below.drew ?_) | (with_reducible refine Below.setCell ?_ ?_ _) | go_size | (exact (by simp)) | omega))
  generalize World.alloc (World.alloc w _) _ = w1 at *
  refine (HC.out _ hB1).mono ?_
  rintro e w2 ⟨rfl, hb2⟩
  have bS2 := bS1.below hb2
  have bW2 := bW1.below hb2
  have hB2 := hB1.trans (hb2.mono hB1.size)
  clear bS1 bW1 hb2 hB1 HC
  have w0 := bW2.cell 0 rfl
  obtain ⟨⟨s0, s1, s2⟩, s3, s4, s5⟩ := boxS6 bS2
  go_wp2_with fail
  refine (HW.out _).mono ?_
  rintro e w3 ⟨rfl, rfl⟩
  go_wp2_with fail
  go_returns
  exact ⟨.slice none 0 0, rfl, .inl ⟨rfl, rfl⟩, hB2⟩

set_option maxRecDepth 100000 in
set_option maxHeartbeats 4000000 in
theorem Factors_none (s : Sheet) (way : Int) (A : Option Addr) (c : Nat) (w : World) (hl : s.cs.length ≤ 1000000000) (hg : Cts w w.heap.size A s.cs) (hok : Sh.okB s = true) (hw : Sh.wayB way = true) (h3 : Sh.spE s = 3) :
    Calls Try.prog 22 #[.agg (shV s A c), .int .i64 way] w (IntsEPost [] 3 w) := by
  have HC : Hid (∀ W, Below w.heap.size w W → Calls Try.prog 41 #[.agg (shV s A c)] W (ErrPost (Sh.chkE s) W)) := fun W hW => shCheck_any s A c W hl ((hg.keep hW).wider hW.size)
  have HP : Hid (∀ W, Below w.heap.size w W → Calls Try.prog 60 #[.agg (shV s A c)] W (SpPost (Sh.spV s A c) (Sh.spE s) W)) := fun W hW => spread_any s A c W hl ((hg.keep hW).wider hW.size)
  have HW : Hid (∀ W, Calls Try.prog 63 #[.int .i64 way] W fun e w' => e = .returned (.bool (Sh.wayB way)) ∧ w' = W) := fun W => isWay_any way W
  rw [Sh.chkE_yes hok] at HC
  rw [hw] at HW
  rw [Sh.spV_no (by rw [h3]; decide), h3] at HP
  clear hg hl hok hw h3
  obtain ⟨al, ah, bl, bh, cs, wrn⟩ := s
  unfold shV at *
  dsimp only at *
  go_enter Try.func22, Try.ntmps22
  go_wp2_with fail
  have bS1 := (BoxS.new w 26 #[.int .i64 al, .int .i64 ah, .int .i64 bl, .int .i64 bh, .slice A cs.length c, .int .i64 wrn]).alloc (.cells #[.int .i64 way] 3)
  have bW1 := BoxS.new (w.alloc (.cells #[.int .i64 al, .int .i64 ah, .int .i64 bl, .int .i64 bh, .slice A cs.length c, .int .i64 wrn] 26)) 3 #[.int .i64 way]
  rw [World.size_alloc] at bW1
  have hB1 : Below w.heap.size w ((w.alloc (.cells #[.int .i64 al, .int .i64 ah, .int .i64 bl, .int .i64 bh, .slice A cs.length c, .int .i64 wrn] 26)).alloc (.cells #[.int .i64 way] 3)) := by (repeat' (first | (with_reducible exact Below.refl _ _) | (with_reducible assumption) | (with_reducible refine Below.alloc ?_ ?_ _) | (with_reducible refine Below.drew ?_) | (with_reducible refine Below.setCell ?_ ?_ _) | go_size | (exact (by simp)) | omega))
  generalize World.alloc (World.alloc w _) _ = w1 at *
  refine (HC.out _ hB1).mono ?_
  rintro e w2 ⟨rfl, hb2⟩
  have bS2 := bS1.below hb2
  have bW2 := bW1.below hb2
  have hB2 := hB1.trans (hb2.mono hB1.size)
  clear bS1 bW1 hb2 hB1 HC
  have w0 := bW2.cell 0 rfl
  obtain ⟨⟨s0, s1, s2⟩, s3, s4, s5⟩ := boxS6 bS2
  go_wp2_with fail
  refine (HW.out _).mono ?_
  rintro e w3 ⟨rfl, rfl⟩
  go_wp2_with fail
  refine (HP.out _ hB2).mono ?_
  rintro e w4 ⟨rfl, hb4⟩
  have hB4 := hB2.trans (hb4.mono hB2.size)
  clear s0 s1 s2 s3 s4 s5 w0 bS2 bW2 hb4 hB2 HP HW
  go_wp2_with fail
  go_returns
  exact ⟨.slice none 0 0, rfl, .inl ⟨rfl, rfl⟩, hB4.alloc hB4.size _⟩

theorem Factors_any (s : Sheet) (way : Int) (A : Option Addr) (c : Nat) (w : World) (hl : s.cs.length ≤ 1000000000) (hg : Cts w w.heap.size A s.cs) :
    Calls Try.prog 22 #[.agg (shV s A c), .int .i64 way] w (IntsEPost (Sh.facR s way) (Sh.facE s way) w) := by
  have he : Sh.facE s way = if Sh.okB s then (if Sh.wayB way then (if Sh.truthsL s = [] then 3 else 0) else 1) else 40 := by unfold Sh.facE Sh.knE; simp
  unfold Sh.facR
  cases hok : Sh.okB s with
  | false =>
    rw [hok] at he
    rw [he]
    exact Factors_bad s way A c w hl hg hok
  | true =>
    rw [hok, if_pos rfl] at he
    cases hw : Sh.wayB way with
    | false =>
      rw [hw] at he
      rw [he]
      exact Factors_way s way A c w hl hg hok hw
    | true =>
      rw [hw, if_pos rfl] at he
      rw [he]
      by_cases ht : Sh.truthsL s = []
      · rw [if_pos ht]
        exact Factors_none s way A c w hl hg hok hw (Sh.sp_none hok ht)
      · rw [if_neg ht, if_pos rfl, ← Sh.fac_ref (Sh.ok_of hok) way]
        exact (Factors_yes s way A c w hl hg (Sh.sp_yes hok ht) hw).mono fun e w' ⟨v, h1, h2, h3, h4⟩ => ⟨v, h1, Ints.of_own h2, h4⟩

set_option maxRecDepth 100000 in
set_option maxHeartbeats 8000000 in
theorem Factors4_any (s : Sheet) (way : Int) (A : Option Addr) (c : Nat) (w : World) (hl : s.cs.length ≤ 1000000000) (hg : Cts w w.heap.size A s.cs) :
    Calls Try.prog 44 #[.agg (shV s A c), .int .i64 way] w (IntsEPost (Sh.facR s way) (Sh.facE s way) w) := by
  have HK : Hid (∀ W, Below w.heap.size w W → Calls Try.prog 87 #[.agg (shV s A c), .int .i64 0, .bool (Sh.wayB way)] W (PrsEPost (Sh.knL s 0 (Sh.wayB way)) (Sh.facE s way) W)) := fun W hW => known4_any s A c _ _ W hl ((hg.keep hW).wider hW.size)
  have HW : Hid (∀ W, Calls Try.prog 78 #[.int .i64 way] W fun e w' => e = .returned (.bool (Sh.wayB way)) ∧ w' = W) := fun W => isWay4_any way W
  by_cases h0 : Sh.facE s way = 0
  · obtain ⟨hok, -, hway, hne, hsp⟩ := Sh.kn_ok h0 (.inl rfl)
    have hs := Sh.ok_of hok
    have hL : Sh.knL s 0 (Sh.wayB way) = Sh.vals (Sh.truthsL s) := by unfold Sh.knL; exact if_pos h0
    have hV : Sh.facR s way = Sh.facTo way (Sh.truthsL s) 201 := by unfold Sh.facR; rw [if_pos h0]
    have HOF : Hid (∀ k, k < (Sh.truthsL s).length → ∀ W, Calls Try.prog 99 #[.agg #[.int .i64 (Geo.ptAt (Sh.vals (Sh.truthsL s)) k).1, .int .i64 (Geo.ptAt (Sh.vals (Sh.truthsL s)) k).2], .int .i64 way] W fun e w' => e = .returned (.int .i64 (Sh.ofV (Geo.ptAt (Sh.vals (Sh.truthsL s)) k) way)) ∧ Below W.heap.size W w') := fun k _ W => Of4_any _ _ way W
    have HAN : Hid (∀ (n j : Nat), j < (Sh.truthsL s).length → Sh.ofV (Geo.ptAt (Sh.vals (Sh.truthsL s)) j) way = 900 + (n : Int) → Sh.facTo way (Sh.truthsL s) (n + 1) = Sh.facTo way (Sh.truthsL s) n ++ [900 + (n : Int)]) := fun n j hj e => Sh.facTo_yes (by
      rw [Sh.vals_at hj] at e
      rw [List.any_eq_true]
      exact ⟨_, List.getElem_mem hj, decide_eq_true e⟩)
    have HNO : Hid (∀ n : Nat, (∀ j, j < (Sh.truthsL s).length → ¬ Sh.ofV (Geo.ptAt (Sh.vals (Sh.truthsL s)) j) way = 900 + (n : Int)) → Sh.facTo way (Sh.truthsL s) (n + 1) = Sh.facTo way (Sh.truthsL s) n) := fun n h => Sh.facTo_no (by
      rw [List.any_eq_false]
      intro f hf
      obtain ⟨j, hj, rfl⟩ := List.getElem_of_mem hf
      have := h j hj
      rw [Sh.vals_at hj] at this
      simpa using this)
    have HFL : Hid (∀ n, (Sh.facTo way (Sh.truthsL s) n).length ≤ n) := fun n => Sh.facTo_len _ _ n
    have hlen := Sh.truthsL_len s hs
    have hvl : (Sh.truthsL s).length = (Sh.vals (Sh.truthsL s)).length := (Sh.vals_len _).symm
    have hF0 : Sh.facTo way (Sh.truthsL s) 0 = [] := rfl
    rw [hL, h0] at HK
    rw [hV, h0]
    rw [hvl] at hlen HOF HAN HNO
    generalize Sh.vals (Sh.truthsL s) = P at *
    generalize Sh.facTo way (Sh.truthsL s) = FT at *
    generalize Sh.wayB way = WB at *
    clear hg hl hok hs hne h0 hL hV hvl hway hsp
    obtain ⟨al, ah, bl, bh, cs, wrn⟩ := s
    unfold shV at HK ⊢
    dsimp only at *
    go_enter Try.func44, Try.ntmps44
    go_wp2_with fail
    have hB1 : Below w.heap.size w (w.alloc (.cells #[.int .i64 al, .int .i64 ah, .int .i64 bl, .int .i64 bh, .slice A cs.length c, .int .i64 wrn] 26)) := by (repeat' (first | (with_reducible exact Below.refl _ _) | (with_reducible assumption) | (with_reducible refine Below.alloc ?_ ?_ _) | (with_reducible refine Below.drew ?_) | (with_reducible refine Below.setCell ?_ ?_ _) | go_size | (exact (by simp)) | omega))
    have bS1 := BoxS.new w 26 #[.int .i64 al, .int .i64 ah, .int .i64 bl, .int .i64 bh, .slice A cs.length c, .int .i64 wrn]
    generalize World.alloc w _ = w1 at *
    refine (wpIn_wide (n := 4)).1 ?_
    have hmo : Try.prog.follows .mixedOrders = true := by kernel_rfl
    have q0 : Below w1.heap.size w1 w1.drew := (Below.refl _ _).drew
    have KC : Hid (∀ W', Below w1.heap.size w1 W' → ((W'.cell? ⟨w.heap.size, 0, none⟩ = some (.int .i64 al) ∧ W'.cell? ⟨w.heap.size, 1, none⟩ = some (.int .i64 ah) ∧ W'.cell? ⟨w.heap.size, 2, none⟩ = some (.int .i64 bl)) ∧ W'.cell? ⟨w.heap.size, 3, none⟩ = some (.int .i64 bh) ∧ W'.cell? ⟨w.heap.size, 4, none⟩ = some (.slice A cs.length c) ∧ W'.cell? ⟨w.heap.size, 5, none⟩ = some (.int .i64 wrn))) := fun W' h => boxS6 (bS1.below h)
    have HK2 := Lib.hid (fun W (hW : Below w1.heap.size w1 W) => HK.out W (hB1.trans (hW.mono hB1.size)))
    refine wpIn_region_held (fun W' => Below w1.heap.size w1 W') 30 hmo ?_
    refine wpHeldIn_take (i := 0) (v := ?_) (plain_of (by kernel_rfl)) rfl (by kernel_rfl) (fun _ _ _ h => h) (yieldsSoIn_of (by kernel_rfl) ?_ (fun _ => rfl)) q0 ?_; rotate_left; focus (intro wq hw; have kq := KC.out wq hw; clear hw; go_simp; try (with_reducible rfl))
    refine wpHeldIn_take (i := 1) (v := ?_) (plain_of (by kernel_rfl)) rfl (by kernel_rfl) (fun _ _ _ h => h) (yieldsSoIn_of (by kernel_rfl) ?_ (fun _ => rfl)) q0 ?_; rotate_left; focus (intro wq hw; clear hw; go_simp; try (with_reducible rfl))
    refine wpHeldIn_one (i := 2) (by kernel_rfl) (by kernel_rfl) rfl (by kernel_rfl) (fun K1 hK1 => ?_)
    go_simp
    refine ⟨trivial, (callsIn_wide.2 (HW.out _)).mono ?_⟩
    rintro e2 w2 ⟨rfl, rfl⟩
    refine hK1 _ _ q0 ?_
    refine wpHeldIn_one (i := 3) (by kernel_rfl) (by kernel_rfl) rfl (by kernel_rfl) (fun K3 hK3 => ?_)
    go_simp
    refine ⟨trivial, (callsIn_wide.2 (HK2.out _ q0)).mono ?_⟩
    rintro e4 w4 ⟨A4, c4, rfl, hP4, hb4⟩
    have q2 := q0.trans (hb4.mono q0.size)
    refine hK3 _ _ q2 ?_
    refine wpHeldIn_take (i := 4) (v := ?_) (plain_of (by kernel_rfl)) rfl (by kernel_rfl) (fun _ _ _ h => h) (yieldsSoIn_of (by kernel_rfl) ?_ (fun _ => rfl)) q2 ?_; rotate_left; focus (intro wq hw; clear hw; go_simp; try (with_reducible rfl))
    refine wpHeldIn_take (i := 5) (v := ?_) (plain_of (by kernel_rfl)) rfl (by kernel_rfl) (fun _ _ _ h => h) (yieldsSoIn_of (by kernel_rfl) ?_ (fun _ => rfl)) q2 ?_; rotate_left; focus (intro wq hw; clear hw; go_simp; try (with_reducible rfl))
    refine wpHeldIn_take (i := 6) (v := ?_) (plain_of (by kernel_rfl)) rfl (by kernel_rfl) (fun _ _ _ h => h) (yieldsSoIn_of (by kernel_rfl) ?_ (fun _ => rfl)) q2 ?_; rotate_left; focus (intro wq hw; clear hw; go_simp; try (with_reducible rfl))
    refine wpHeldIn_take (i := 7) (v := ?_) (plain_of (by kernel_rfl)) rfl (by kernel_rfl) (fun _ _ _ h => h) (yieldsSoIn_of (by kernel_rfl) ?_ (fun _ => rfl)) q2 ?_; rotate_left; focus (intro wq hw; clear hw; go_simp; try (with_reducible rfl))
    refine wpHeldIn_take (i := 8) (v := ?_) (plain_of (by kernel_rfl)) rfl (by kernel_rfl) (fun _ _ _ h => h) (yieldsSoIn_of (by kernel_rfl) ?_ (fun _ => rfl)) q2 ?_; rotate_left; focus (intro wq hw; clear hw; go_simp; try (with_reducible rfl))
    refine wpHeldIn_done (by kernel_rfl) ?_ _
    go_simp
    have hB4 := hB1.trans (q2.mono hB1.size)
    have hB4s := hB4.size
    clear hb4 q2 KC q0 HK2 HK HW bS1 hB1
    go_wp2_with fail
    go_loopg [8, 9] 201 (fun g x8 x9 wx => ∃ n : Nat, Hid (n + g = 201) ∧ (n : Int) ≤ 201 ∧ x9 = .int .i64 (900 + (n : Int)) ∧ Below w.heap.size w wx ∧ Below w4.heap.size w4 wx ∧ wx.ownsRow w4.heap.size 3 1 x8 (FT n).length ((FT n).map (Value.int .i64)))
    case atStart => exact ⟨0, by simp [Hid], by omega, rfl, hB4, Below.refl _ _, by rw [hF0]; exact own_nil _ _⟩
    case round =>
      clear hB4
      obtain ⟨n, hn, hn1, rfl, hB, hbb, hown⟩ := hrel
      have hn0 := Int.natCast_nonneg n
      by_cases hlt : (n : Int) < 201
      · have hle : 900 + (n : Int) ≤ 1100 := by omega
        have HO := Lib.hid hown
        have hfl := HFL.out n
        have hw1 : IntKind.i64.wrap (900 + (n : Int) + 1) = 900 + (n : Int) + 1 := IntWalk.i64_in _ (by omega)
        have HAN1 := Lib.hid (HAN.out n)
        have HNO1 := Lib.hid (HNO.out n)
        clear hown hlt
        go_wp2_with fail
        obtain ⟨gko, rfl⟩ : ∃ gko, gko = gk := ⟨_, rfl⟩
        obtain ⟨wq, rfl⟩ : ∃ wq, wq = wr := ⟨_, rfl⟩
        obtain ⟨v8, rfl⟩ : ∃ v8, v8 = u8 := ⟨_, rfl⟩
        go_loopg [8, 10] P.length (fun g x8 x10 wx => ∃ j : Nat, Hid (j + g = P.length) ∧ (j : Int) ≤ P.length ∧ x10 = .int .i64 j ∧ x8 = v8 ∧ Below w.heap.size w wx ∧ Below w4.heap.size w4 wx ∧ wx.ownsRow w4.heap.size 3 1 v8 (FT n).length ((FT n).map (Value.int .i64)) ∧ Hid (∀ i, i < j → ¬ Sh.ofV (Geo.ptAt P i) way = 900 + (n : Int)))
        case atStart => exact ⟨0, by simp [Hid], by omega, rfl, rfl, hB, hbb, HO.out, fun i hi => by omega⟩
        case round =>
          clear hB hbb HO
          obtain ⟨j, hj, hj1, rfl, rfl, hB, hbb, hown, hall⟩ := hrel
          have hj0 := Int.natCast_nonneg j
          have HO := Lib.hid hown
          have hlb := hbb.size
          clear hown
          by_cases hlt : (j : Int) < P.length
          · have hjn : j < P.length := by omega
            have hPk : P[j]? = some (Geo.ptAt P j) := by unfold Geo.ptAt; rw [List.getElem?_eq_getElem hjn]; rfl
            obtain ⟨bp, op, rfl, hbp, hcp⟩ := hP4.out (by omega)
            obtain ⟨h0, h1⟩ := hcp j _ hPk
            have a0 := (hbb.cell (p := ⟨bp, _, none⟩) hbp).trans h0
            have a1 := (hbb.cell (p := ⟨bp, _, none⟩) hbp).trans h1
            have hlb2 : bp < wr.heap.size := by omega
            have HOF1 := Lib.hid (HOF.out j hjn)
            have hw2 : IntKind.i64.wrap ((j : Int) + 1) = (j : Int) + 1 := IntWalk.i64_in _ (by omega)
            have HY : Hid (Sh.ofV (Geo.ptAt P j) way = 900 + (n : Int) → FT (n + 1) = FT n ++ [900 + (n : Int)]) := HAN1.out j hjn
            have HJ : Hid (¬ Sh.ofV (Geo.ptAt P j) way = 900 + (n : Int) → ∀ i, i < j + 1 → ¬ Sh.ofV (Geo.ptAt P i) way = 900 + (n : Int)) := fun h i hi => by
              by_cases e : i = j
              · rw [e]; exact h
              · exact hall.out i (by omega)
            clear h0 h1 hcp hPk
            generalize Sh.ofV (Geo.ptAt P j) way = ov at *
            generalize Geo.ptAt P j = q at *
            obtain ⟨q1, q2⟩ := q
            dsimp only at a0 a1 HOF1
            go_wp2_with fail
            refine (HOF1.out _).mono ?_
            rintro e6 w6 ⟨rfl, hb6⟩
            have hB6 := hB.trans (hb6.mono hB.size)
            have hbb6 := hbb.trans (hb6.mono hbb.size)
            have HO6 := Lib.hid (own_below HO.out hb6)
            have hlb6 := hbb6.size
            clear a0 a1 hb6 HO HOF1
            by_cases ho : ov = 900 + (n : Int)
            · have hob : (ov == 900 + (n : Int)) = true := by simpa using ho
              have HY2 := Lib.hid (HY.out ho)
              clear ho HY HJ
              go_wp2_with (at_builtin; go_must (refine wpList_push rfl (.tmp 39) (.tmp 41) rfl (900 + (n : Int)) w4.heap.size _ _ _ rfl rfl HO6.out (by omega) (by omega) ?_); intro v' w7 hown7 hb7; have HO7 := Lib.hid hown7; clear hown7)
              obtain ⟨g', hg'⟩ : ∃ g', gko = g' + 1 := ⟨gko - 1, by have := hn.out; omega⟩
              go_roundg g'
              case measure => omega
              case rel =>
                refine ⟨n + 1, by have := hn.out; simp only [Hid]; omega, by omega, by simp; omega, hB6.trans (hb7.mono (by have := hB4s; omega)), hbb6.trans hb7, ?_⟩
                rw [HY2.out]
                simpa using HO7.out
            · have hob : (ov == 900 + (n : Int)) = false := by simpa using ho
              have HJ2 := Lib.hid (HJ.out ho)
              clear ho HY HJ
              go_wp2_with fail
              obtain ⟨g', hg'⟩ : ∃ g', gk = g' + 1 := ⟨gk - 1, by have := hj.out; omega⟩
              go_roundg g'
              case measure => omega
              case rel => exact ⟨j + 1, by have := hj.out; simp only [Hid]; omega, by omega, by go_num, rfl, hB6, hbb6, HO6.out, HJ2.out⟩
          · have ej : j = P.length := by omega
            have HN2 : Hid (FT (n + 1) = FT n) := HNO1.out (fun i hi => hall.out i (by omega))
            clear hlt
            subst ej
            go_wp2_with fail
            obtain ⟨g', hg'⟩ : ∃ g', gko = g' + 1 := ⟨gko - 1, by have := hn.out; omega⟩
            go_roundg g'
            case measure => omega
            case rel => exact ⟨n + 1, by have := hn.out; simp only [Hid]; omega, by omega, by simp; omega, hB, hbb, by rw [HN2.out]; exact HO.out⟩
      · have en : n = 201 := by omega
        subst en
        have hle : ¬ (900 + ((201 : Nat) : Int) ≤ 1100) := by omega
        have HI := Lib.hid (Ints.of_own hown)
        clear hown
        go_wp2_with fail
        go_returns
        exact ⟨u8, rfl, HI, hB⟩
  · have hne : (Sh.facE s way != 0) = true := by simpa using h0
    have hV : Sh.facR s way = [] := by unfold Sh.facR; rw [if_neg h0]
    rw [hV]
    generalize Sh.knL s 0 (Sh.wayB way) = P at *
    generalize Sh.facE s way = E at *
    generalize Sh.wayB way = WB at *
    clear hg hl h0 hV
    obtain ⟨al, ah, bl, bh, cs, wrn⟩ := s
    unfold shV at HK ⊢
    dsimp only at *
    go_enter Try.func44, Try.ntmps44
    go_wp2_with fail
    have hB1 : Below w.heap.size w (w.alloc (.cells #[.int .i64 al, .int .i64 ah, .int .i64 bl, .int .i64 bh, .slice A cs.length c, .int .i64 wrn] 26)) := by (repeat' (first | (with_reducible exact Below.refl _ _) | (with_reducible assumption) | (with_reducible refine Below.alloc ?_ ?_ _) | (with_reducible refine Below.drew ?_) | (with_reducible refine Below.setCell ?_ ?_ _) | go_size | (exact (by simp)) | omega))
    have bS1 := BoxS.new w 26 #[.int .i64 al, .int .i64 ah, .int .i64 bl, .int .i64 bh, .slice A cs.length c, .int .i64 wrn]
    generalize World.alloc w _ = w1 at *
    refine (wpIn_wide (n := 4)).1 ?_
    have hmo : Try.prog.follows .mixedOrders = true := by kernel_rfl
    have q0 : Below w1.heap.size w1 w1.drew := (Below.refl _ _).drew
    have KC : Hid (∀ W', Below w1.heap.size w1 W' → ((W'.cell? ⟨w.heap.size, 0, none⟩ = some (.int .i64 al) ∧ W'.cell? ⟨w.heap.size, 1, none⟩ = some (.int .i64 ah) ∧ W'.cell? ⟨w.heap.size, 2, none⟩ = some (.int .i64 bl)) ∧ W'.cell? ⟨w.heap.size, 3, none⟩ = some (.int .i64 bh) ∧ W'.cell? ⟨w.heap.size, 4, none⟩ = some (.slice A cs.length c) ∧ W'.cell? ⟨w.heap.size, 5, none⟩ = some (.int .i64 wrn))) := fun W' h => boxS6 (bS1.below h)
    have HK2 := Lib.hid (fun W (hW : Below w1.heap.size w1 W) => HK.out W (hB1.trans (hW.mono hB1.size)))
    refine wpIn_region_held (fun W' => Below w1.heap.size w1 W') 30 hmo ?_
    refine wpHeldIn_take (i := 0) (v := ?_) (plain_of (by kernel_rfl)) rfl (by kernel_rfl) (fun _ _ _ h => h) (yieldsSoIn_of (by kernel_rfl) ?_ (fun _ => rfl)) q0 ?_; rotate_left; focus (intro wq hw; have kq := KC.out wq hw; clear hw; go_simp; try (with_reducible rfl))
    refine wpHeldIn_take (i := 1) (v := ?_) (plain_of (by kernel_rfl)) rfl (by kernel_rfl) (fun _ _ _ h => h) (yieldsSoIn_of (by kernel_rfl) ?_ (fun _ => rfl)) q0 ?_; rotate_left; focus (intro wq hw; clear hw; go_simp; try (with_reducible rfl))
    refine wpHeldIn_one (i := 2) (by kernel_rfl) (by kernel_rfl) rfl (by kernel_rfl) (fun K1 hK1 => ?_)
    go_simp
    refine ⟨trivial, (callsIn_wide.2 (HW.out _)).mono ?_⟩
    rintro e2 w2 ⟨rfl, rfl⟩
    refine hK1 _ _ q0 ?_
    refine wpHeldIn_one (i := 3) (by kernel_rfl) (by kernel_rfl) rfl (by kernel_rfl) (fun K3 hK3 => ?_)
    go_simp
    refine ⟨trivial, (callsIn_wide.2 (HK2.out _ q0)).mono ?_⟩
    rintro e4 w4 ⟨A4, c4, rfl, hP4, hb4⟩
    have q2 := q0.trans (hb4.mono q0.size)
    refine hK3 _ _ q2 ?_
    refine wpHeldIn_take (i := 4) (v := ?_) (plain_of (by kernel_rfl)) rfl (by kernel_rfl) (fun _ _ _ h => h) (yieldsSoIn_of (by kernel_rfl) ?_ (fun _ => rfl)) q2 ?_; rotate_left; focus (intro wq hw; clear hw; go_simp; try (with_reducible rfl))
    refine wpHeldIn_take (i := 5) (v := ?_) (plain_of (by kernel_rfl)) rfl (by kernel_rfl) (fun _ _ _ h => h) (yieldsSoIn_of (by kernel_rfl) ?_ (fun _ => rfl)) q2 ?_; rotate_left; focus (intro wq hw; clear hw; go_simp; try (with_reducible rfl))
    refine wpHeldIn_take (i := 6) (v := ?_) (plain_of (by kernel_rfl)) rfl (by kernel_rfl) (fun _ _ _ h => h) (yieldsSoIn_of (by kernel_rfl) ?_ (fun _ => rfl)) q2 ?_; rotate_left; focus (intro wq hw; clear hw; go_simp; try (with_reducible rfl))
    refine wpHeldIn_take (i := 7) (v := ?_) (plain_of (by kernel_rfl)) rfl (by kernel_rfl) (fun _ _ _ h => h) (yieldsSoIn_of (by kernel_rfl) ?_ (fun _ => rfl)) q2 ?_; rotate_left; focus (intro wq hw; clear hw; go_simp; try (with_reducible rfl))
    refine wpHeldIn_take (i := 8) (v := ?_) (plain_of (by kernel_rfl)) rfl (by kernel_rfl) (fun _ _ _ h => h) (yieldsSoIn_of (by kernel_rfl) ?_ (fun _ => rfl)) q2 ?_; rotate_left; focus (intro wq hw; clear hw; go_simp; try (with_reducible rfl))
    refine wpHeldIn_done (by kernel_rfl) ?_ _
    go_simp
    have hB4 := hB1.trans (q2.mono hB1.size)
    have hB4s := hB4.size
    clear hb4 q2 KC q0 HK2 HK HW bS1 hB1
    go_wp2_with fail
    go_returns
    exact ⟨.slice none 0 0, rfl, .inl ⟨rfl, rfl⟩, hB4⟩
end Go.Proofs.Ytgpmnkdagpcffaa
