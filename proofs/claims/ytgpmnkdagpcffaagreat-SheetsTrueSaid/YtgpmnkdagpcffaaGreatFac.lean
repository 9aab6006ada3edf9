/- Sheets: the factors of a direction: each error, and the reference's list, which is the same. -/
import Derived.Test.YtgpmnkdagpcffaaGreatStr
namespace Go.Proofs.YtgpmnkdagpcffaaGreat
open Go.RowKit Go.Shelf Go.Maps Go.Sort
namespace Sh
/-- A map's keys are numbers. -/
def IntK (D : DataW Empty) : Prop := ∃ es, D = .map es ∧ ∀ p ∈ es, ∃ x, p.1 = .int .i64 x
theorem intK_put {D : DataW Empty} (h : IntK D) (x : Int) (d : DataW Empty) : IntK (D.put (.int .i64 x) d) := by
  obtain ⟨es, rfl, hp⟩ := h
  refine ⟨_, rfl, fun p hp' => ?_⟩
  have := (WideShapes.insert_perm (Lit.int .i64 x, d) _).mem_iff.1 hp'
  rcases List.mem_cons.1 this with rfl | hm
  · exact ⟨x, rfl⟩
  · exact hp p (List.mem_filter.1 hm).1
theorem intK_map (way : Int) (L : List FaS) : IntK (mapD (H := Empty) way L) := by
  have key : ∀ (L : List FaS) (D : DataW Empty), IntK D → IntK (L.foldl (fun D x => D.put (.int .i64 (ofV x.1 way)) (.lit (.bool true))) D) := by
    intro L
    induction L with
    | nil => exact fun D h => h
    | cons x l ih => exact fun D h => ih _ (intK_put h _ _)
  exact key L _ ⟨[], rfl, fun p hp => by cases hp⟩
theorem mapD_set (way : Int) (L : List FaS) : mapD (H := Empty) way L = setOf (.lit (.bool true)) (L.map fun x => .int .i64 (ofV x.1 way)) := by
  unfold mapD setOf
  rw [List.foldl_map]
theorem lits (way : Int) (L : List FaS) : ∀ x ∈ (L.map fun x => Lit.int .i64 (ofV x.1 way)), WideAt.IsKeyLit x := by
  intro x hx
  rw [List.mem_map] at hx
  obtain ⟨f, _, rfl⟩ := hx
  trivial
/-- The sorted keys are the strictly ascending list of the same members. -/
theorem fac_eq (way : Int) (L : List FaS) {R : List Int} (hR : R.Pairwise (fun a b => a < b)) (hm : ∀ x, x ∈ R ↔ ∃ f ∈ L, ofV f.1 way = x) : facL way L = R := by
  have ht : Tidy (mapD (H := Empty) way L) := by rw [mapD_set]; exact tidy_setOf _ _ (lits way L)
  obtain ⟨es, he, hk⟩ := intK_map way L
  obtain ⟨es2, he2, hp⟩ := ht
  have hes : es2 = es := by rw [he] at he2; injection he2 with h; exact h.symm
  subst hes
  have hnd : R.Nodup := hR.imp (fun h => by omega)
  have hhas : ∀ x, x ∈ R ↔ has (.map es2) (.int .i64 x) = true := by
    intro x
    rw [hm x, ← he, mapD_set]
    unfold setOf
    rw [has_fold _ _ _ _ ⟨[], rfl⟩ (lits way L)]
    have h0 : has (DataW.map ([] : List (Lit × DataW Empty))) (.int .i64 x) = false := rfl
    rw [h0, Bool.false_or, List.any_map, List.any_eq_true]
    constructor
    · rintro ⟨f, hf, rfl⟩
      exact ⟨f, hf, by simp [Lit.sameKey]⟩
    · rintro ⟨f, hf, h⟩
      exact ⟨f, hf, by simpa [Lit.sameKey] using h⟩
  have hperm := perm_intKeys hp hk hnd hhas
  have h1 := mergeSort_of_perm_i hperm
  rw [List.mergeSort_of_pairwise (hR.imp (fun h => by simp only [leI, decide_eq_true_eq]; omega))] at h1
  unfold facL
  rw [he]
  exact h1.symm
/-- The numbers from 900 that are a factor in some case. -/
def facTo (way : Int) (L : List FaS) : Nat → List Int
  | 0 => []
  | k + 1 => if (L.any fun f => decide (ofV f.1 way = 900 + (k : Int))) then facTo way L k ++ [900 + (k : Int)] else facTo way L k
theorem facTo_yes {way : Int} {L : List FaS} {k : Nat} (h : (L.any fun f => decide (ofV f.1 way = 900 + (k : Int))) = true) : facTo way L (k + 1) = facTo way L k ++ [900 + (k : Int)] := by rw [facTo, if_pos h]
theorem facTo_no {way : Int} {L : List FaS} {k : Nat} (h : (L.any fun f => decide (ofV f.1 way = 900 + (k : Int))) = false) : facTo way L (k + 1) = facTo way L k := by rw [facTo, if_neg (by rw [h]; decide)]
theorem facTo_len (way : Int) (L : List FaS) : ∀ k, (facTo way L k).length ≤ k
  | 0 => Nat.le_refl _
  | k + 1 => by
    have := facTo_len way L k
    cases h : (L.any fun f => decide (ofV f.1 way = 900 + (k : Int))) with
    | true => rw [facTo_yes h]; simp; omega
    | false => rw [facTo_no h]; omega
theorem facTo_mem (way : Int) (L : List FaS) : ∀ (k : Nat) (x : Int), x ∈ facTo way L k ↔ (900 ≤ x ∧ x < 900 + (k : Int)) ∧ ∃ f ∈ L, ofV f.1 way = x
  | 0, x => by simp [facTo]; omega
  | k + 1, x => by
    have ih := facTo_mem way L k x
    cases h : (L.any fun f => decide (ofV f.1 way = 900 + (k : Int))) with
    | true =>
      rw [facTo_yes h, List.mem_append, ih]
      rw [List.any_eq_true] at h
      obtain ⟨f, hf, hx⟩ := h
      have hx := of_decide_eq_true hx
      constructor
      · rintro (⟨h1, h2⟩ | h1)
        · exact ⟨by omega, h2⟩
        · have e : x = 900 + (k : Int) := by simpa using h1
          exact ⟨by omega, f, hf, by rw [e]; exact hx⟩
      · rintro ⟨h1, h2⟩
        by_cases e : x = 900 + (k : Int)
        · exact .inr (by simpa using e)
        · exact .inl ⟨by omega, h2⟩
    | false =>
      rw [facTo_no h, ih]
      rw [List.any_eq_false] at h
      constructor
      · rintro ⟨h1, h2⟩
        exact ⟨by omega, h2⟩
      · rintro ⟨h1, f, hf, h2⟩
        have := h f hf
        refine ⟨?_, f, hf, h2⟩
        have : ¬ ofV f.1 way = 900 + (k : Int) := fun e => this (decide_eq_true e)
        omega
theorem facTo_sorted (way : Int) (L : List FaS) : ∀ k, (facTo way L k).Pairwise (fun a b => a < b)
  | 0 => List.Pairwise.nil
  | k + 1 => by
    have ih := facTo_sorted way L k
    cases h : (L.any fun f => decide (ofV f.1 way = 900 + (k : Int))) with
    | true =>
      rw [facTo_yes h, List.pairwise_append]
      refine ⟨ih, by simp, fun a ha b hb => ?_⟩
      have := (facTo_mem way L k a).1 ha
      have e : b = 900 + (k : Int) := by simpa using hb
      omega
    | false => rw [facTo_no h]; exact ih
theorem of_in {s : Sheet} (hs : Ok s) {f : FaS} (h : f ∈ truthsL s) {way : Int} : 900 ≤ ofV f.1 way ∧ ofV f.1 way < 900 + 201 := by
  have hc := cases_in hs (List.mem_filter.1 h).1
  have h1 := hs.a1
  have h2 := hs.a3
  have h3 := hs.b1
  have h4 := hs.b3
  unfold ofV
  split <;> omega
theorem fac_ref {s : Sheet} (hs : Ok s) (way : Int) : facL way (truthsL s) = facTo way (truthsL s) 201 :=
  fac_eq way _ (facTo_sorted way _ 201) (fun x => by
    rw [facTo_mem]
    constructor
    · exact fun h => h.2
    · rintro ⟨f, hf, rfl⟩
      exact ⟨of_in hs hf, f, hf, rfl⟩)
def facE (s : Sheet) (way : Int) : Int := knE s 0 (wayB way)
def facR (s : Sheet) (way : Int) : List Int := if facE s way = 0 then facTo way (truthsL s) 201 else []
theorem facR_len (s : Sheet) (way : Int) : (facR s way).length ≤ 201 := by
  unfold facR
  split
  · exact facTo_len _ _ _
  · simp
end Sh

set_option maxRecDepth 100000 in
set_option maxHeartbeats 4000000 in
theorem Factors_bad (s : Sheet) (way : Int) (A : Option Addr) (c : Nat) (w : World) (hl : s.cs.length ≤ 1000000000) (hg : Cts w w.heap.size A s.cs) (hok : Sh.okB s = false) :
    Calls Tryz.prog 10 #[.agg (shV s A c), .int .i64 way] w (IntsEPost [] 40 w) := by
  have HC : Hid (∀ W, Below w.heap.size w W → Calls Tryz.prog 34 #[.agg (shV s A c)] W (ErrPost (Sh.chkE s) W)) := fun W hW => shCheck_any s A c W hl ((hg.keep hW).wider hW.size)
  have HP : Hid (∀ W, Below w.heap.size w W → Calls Tryz.prog 36 #[.agg (shV s A c)] W (SpPost (Sh.spV s A c) (Sh.spE s) W)) := fun W hW => spread_any s A c W hl ((hg.keep hW).wider hW.size)
  have HW : Hid (∀ W, Calls Tryz.prog 35 #[.int .i64 way] W fun e w' => e = .returned (.bool (Sh.wayB way)) ∧ w' = W) := fun W => isWay_any way W
  rw [Sh.chkE_no hok] at HC
  clear HP HW
  clear hg hl hok
  obtain ⟨al, ah, bl, bh, cs, wrn⟩ := s
  unfold shV at *
  dsimp only at *
  go_enter Tryz.func10, Tryz.ntmps10
  go_wp2_with fail
  have bS1 := (BoxS.new w 26 #[.int .i64 al, .int .i64 ah, .int .i64 bl, .int .i64 bh, .slice A cs.length c, .int .i64 wrn]).alloc (.cells #[.int .i64 way] 3)
  have bW1 := BoxS.new (w.alloc (.cells #[.int .i64 al, .int .i64 ah, .int .i64 bl, .int .i64 bh, .slice A cs.length c, .int .i64 wrn] 26)) 3 #[.int .i64 way]
  rw [World.size_alloc] at bW1
  have hB1 : Below w.heap.size w ((w.alloc (.cells #[.int .i64 al, .int .i64 ah, .int .i64 bl, .int .i64 bh, .slice A cs.length c, .int .i64 wrn] 26)).alloc (.cells #[.int .i64 way] 3)) := by (repeat' (first | (with_reducible exact Below.refl _ _) | (with_reducible assumption) | (with_reducible refine Below.alloc ?_ ?_ _) | (with_reducible refine Below.drew ?_) | (with_reducible refine Below.setCell ?_ ?_ _) | go_size | (exact (by simp)) | omega))
  generalize World.alloc (World.alloc w _) _ = w1 at *
  refine (HC.out _ hB1).mono ?_
  rintro e w2 ⟨rfl, hb2⟩
  have bS2 := bS1.below hb2
  have bW2 := bW1.below hb2
  have hB2 := hB1.trans (hb2.mono hB1.size)
  clear bS1 bW1 hb2 hB1 HC
  have w0 := bW2.cell 0 rfl
  obtain ⟨⟨s0, s1, s2⟩, s3, s4, s5⟩ := boxS6 bS2
  go_wp2_with fail
  go_returns
  exact ⟨.slice none 0 0, rfl, .inl ⟨rfl, rfl⟩, hB2⟩

set_option maxRecDepth 100000 in
set_option maxHeartbeats 4000000 in
theorem Factors_way (s : Sheet) (way : Int) (A : Option Addr) (c : Nat) (w : World) (hl : s.cs.length ≤ 1000000000) (hg : Cts w w.heap.size A s.cs) (hok : Sh.okB s = true) (hw : Sh.wayB way = false) :
    Calls Tryz.prog 10 #[.agg (shV s A c), .int .i64 way] w (IntsEPost [] 1 w) := by
  have HC : Hid (∀ W, Below w.heap.size w W → Calls Tryz.prog 34 #[.agg (shV s A c)] W (ErrPost (Sh.chkE s) W)) := fun W hW => shCheck_any s A c W hl ((hg.keep hW).wider hW.size)
  have HP : Hid (∀ W, Below w.heap.size w W → Calls Tryz.prog 36 #[.agg (shV s A c)] W (SpPost (Sh.spV s A c) (Sh.spE s) W)) := fun W hW => spread_any s A c W hl ((hg.keep hW).wider hW.size)
  have HW : Hid (∀ W, Calls Tryz.prog 35 #[.int .i64 way] W fun e w' => e = .returned (.bool (Sh.wayB way)) ∧ w' = W) := fun W => isWay_any way W
  rw [Sh.chkE_yes hok] at HC
  rw [hw] at HW
  clear HP
  clear hg hl hok hw
  obtain ⟨al, ah, bl, bh, cs, wrn⟩ := s
  unfold shV at *
  dsimp only at *
  go_enter Tryz.func10, Tryz.ntmps10
  go_wp2_with fail
  have bS1 := (BoxS.new w 26 #[.int .i64 al, .int .i64 ah, .int .i64 bl, .int .i64 bh, .slice A cs.length c, .int .i64 wrn]).alloc (.cells #[.int .i64 way] 3)
  have bW1 := BoxS.new (w.alloc (.cells #[.int .i64 al, .int .i64 ah, .int .i64 bl, .int .i64 bh, .slice A cs.length c, .int .i64 wrn] 26)) 3 #[.int .i64 way]
  rw [World.size_alloc] at bW1
  have hB1 : Below w.heap.size w ((w.alloc (.cells #[.int .i64 al, .int .i64 ah, .int .i64 bl, .int .i64 bh, .slice A cs.length c, .int .i64 wrn] 26)).alloc (.cells #[.int .i64 way] 3)) := by (repeat' (first | (with_reducible exact Below.refl _ _) | (with_reducible assumption) | (with_reducible refine Below.alloc ?_ ?_ _) | (with_reducible refine Below.drew ?_) | (with_reducible refine Below.setCell ?_ ?_ _) | go_size | (exact (by simp)) | omega))
  generalize World.alloc (World.alloc w _) _ = w1 at *
  refine (HC.out _ hB1).mono ?_
  rintro e w2 ⟨rfl, hb2⟩
  have bS2 := bS1.below hb2
  have bW2 := bW1.below hb2
  have hB2 := hB1.trans (hb2.mono hB1.size)
  clear bS1 bW1 hb2 hB1 HC
  have w0 := bW2.cell 0 rfl
  obtain ⟨⟨s0, s1, s2⟩, s3, s4, s5⟩ := boxS6 bS2
  go_wp2_with fail
  refine (HW.out _).mono ?_
  rintro e w3 ⟨rfl, rfl⟩
  go_wp2_with fail
  go_returns
  exact ⟨.slice none 0 0, rfl, .inl ⟨rfl, rfl⟩, hB2⟩

set_option maxRecDepth 100000 in
set_option maxHeartbeats 4000000 in
theorem Factors_none (s : Sheet) (way : Int) (A : Option Addr) (c : Nat) (w : World) (hl : s.cs.length ≤ 1000000000) (hg : Cts w w.heap.size A s.cs) (hok : Sh.okB s = true) (hw : Sh.wayB way = true) (h3 : Sh.spE s = 3) :
    Calls Tryz.prog 10 #[.agg (shV s A c), .int .i64 way] w (IntsEPost [] 3 w) := by
  have HC : Hid (∀ W, Below w.heap.size w W → Calls Tryz.prog 34 #[.agg (shV s A c)] W (ErrPost (Sh.chkE s) W)) := fun W hW => shCheck_any s A c W hl ((hg.keep hW).wider hW.size)
  have HP : Hid (∀ W, Below w.heap.size w W → Calls Tryz.prog 36 #[.agg (shV s A c)] W (SpPost (Sh.spV s A c) (Sh.spE s) W)) := fun W hW => spread_any s A c W hl ((hg.keep hW).wider hW.size)
  have HW : Hid (∀ W, Calls Tryz.prog 35 #[.int .i64 way] W fun e w' => e = .returned (.bool (Sh.wayB way)) ∧ w' = W) := fun W => isWay_any way W
  rw [Sh.chkE_yes hok] at HC
  rw [hw] at HW
  rw [Sh.spV_no (by rw [h3]; decide), h3] at HP
  clear hg hl hok hw h3
  obtain ⟨al, ah, bl, bh, cs, wrn⟩ := s
  unfold shV at *
  dsimp only at *
  go_enter Tryz.func10, Tryz.ntmps10
  go_wp2_with fail
  have bS1 := (BoxS.new w 26 #[.int .i64 al, .int .i64 ah, .int .i64 bl, .int .i64 bh, .slice A cs.length c, .int .i64 wrn]).alloc (.cells #[.int .i64 way] 3)
  have bW1 := BoxS.new (w.alloc (.cells #[.int .i64 al, .int .i64 ah, .int .i64 bl, .int .i64 bh, .slice A cs.length c, .int .i64 wrn] 26)) 3 #[.int .i64 way]
  rw [World.size_alloc] at bW1
  have hB1 : Below w.heap.size w ((w.alloc (.cells #[.int .i64 al, .int .i64 ah, .int .i64 bl, .int .i64 bh, .slice A cs.length c, .int .i64 wrn] 26)).alloc (.cells #[.int .i64 way] 3)) := by (repeat' (first | (with_reducible exact Below.refl _ _) | (with_reducible assumption) | (with_reducible refine Below.alloc ?_ ?_ _) | (with_reducible refine Below.drew ?_) | (with_reducible refine Below.setCell ?_ ?_ _) | go_size | (exact (by simp)) | omega))
  generalize World.alloc (World.alloc w _) _ = w1 at *
  refine (HC.out _ hB1).mono ?_
  rintro e w2 ⟨rfl, hb2⟩
  have bS2 := bS1.below hb2
  have bW2 := bW1.below hb2
  have hB2 := hB1.trans (hb2.mono hB1.size)
  clear bS1 bW1 hb2 hB1 HC
  have w0 := bW2.cell 0 rfl
  obtain ⟨⟨s0, s1, s2⟩, s3, s4, s5⟩ := boxS6 bS2
  go_wp2_with fail
  refine (HW.out _).mono ?_
  rintro e w3 ⟨rfl, rfl⟩
  go_wp2_with fail
  refine (HP.out _ hB2).mono ?_
  rintro e w4 ⟨rfl, hb4⟩
  have hB4 := hB2.trans (hb4.mono hB2.size)
  clear s0 s1 s2 s3 s4 s5 w0 bS2 bW2 hb4 hB2 HP HW
  go_wp2_with fail
  go_returns
  exact ⟨.slice none 0 0, rfl, .inl ⟨rfl, rfl⟩, hB4.alloc hB4.size _⟩

theorem Factors_any (s : Sheet) (way : Int) (A : Option Addr) (c : Nat) (w : World) (hl : s.cs.length ≤ 1000000000) (hg : Cts w w.heap.size A s.cs) :
    Calls Tryz.prog 10 #[.agg (shV s A c), .int .i64 way] w (IntsEPost (Sh.facR s way) (Sh.facE s way) w) := by
  have he : Sh.facE s way = if Sh.okB s then (if Sh.wayB way then (if Sh.truthsL s = [] then 3 else 0) else 1) else 40 := by unfold Sh.facE Sh.knE; simp
  unfold Sh.facR
  cases hok : Sh.okB s with
  | false =>
    rw [hok] at he
    rw [he]
    exact Factors_bad s way A c w hl hg hok
  | true =>
    rw [hok, if_pos rfl] at he
    cases hw : Sh.wayB way with
    | false =>
      rw [hw] at he
      rw [he]
      exact Factors_way s way A c w hl hg hok hw
    | true =>
      rw [hw, if_pos rfl] at he
      rw [he]
      by_cases ht : Sh.truthsL s = []
      · rw [if_pos ht]
        exact Factors_none s way A c w hl hg hok hw (Sh.sp_none hok ht)
      · rw [if_neg ht, if_pos rfl, ← Sh.fac_ref (Sh.ok_of hok) way]
        exact (Factors_yes s way A c w hl hg (Sh.sp_yes hok ht) hw).mono fun e w' ⟨v, h1, h2, h3, h4⟩ => ⟨v, h1, Ints.of_own h2, h4⟩

end Go.Proofs.YtgpmnkdagpcffaaGreat
