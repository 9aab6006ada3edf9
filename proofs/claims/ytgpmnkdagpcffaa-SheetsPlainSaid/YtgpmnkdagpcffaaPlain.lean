/- Sheets: the walk of SheetsPlain, a sheet that has not shrunk. -/
import Derived.Test.YtgpmnkdagpcffaaLen
import Derived.Test.YtgpmnkdagpcffaaShOB
namespace Go.Proofs.Ytgpmnkdagpcffaa
open Go.RowKit
namespace Geo
theorem sum_le {l : List Int} {M : Int} (h : ∀ x ∈ l, -M ≤ x ∧ x ≤ M) : -(M * l.length) ≤ l.sum ∧ l.sum ≤ M * l.length := by
  induction l with
  | nil => simp
  | cons x l ih =>
    have h1 := h x (by simp)
    have h2 := ih (fun y hy => h y (by simp [hy]))
    rw [List.sum_cons, List.length_cons]
    have e : M * ((l.length + 1 : Nat) : Int) = M * l.length + M := by rw [Int.natCast_add, Int.mul_add]; simp
    rw [e]
    omega
theorem fan_tight {s : Pt × Pt} (h1 : ptB s.1 = true) (h2 : ptB s.2 = true) : -80000 ≤ fanV s ∧ fanV s ≤ 80000 := by
  unfold ptB at h1 h2
  rw [Bool.and_eq_true, inB_true, inB_true] at h1 h2
  obtain ⟨⟨a, b⟩, c, d⟩ := s
  dsimp only at h1 h2
  have m1 := mul_bd (a := a) (b := d) (x := 200) (y := 200) (by omega) (by omega) (by omega) (by omega)
  have m2 := mul_bd (a := b) (b := c) (x := 200) (y := 200) (by omega) (by omega) (by omega) (by omega)
  have e : fanV ((a, b), (c, d)) = a * d - b * c := by unfold fanV turn; grind
  rw [e]
  omega
theorem tot_tight {ps : List Pt} (h : validB ps = true) : -800000 ≤ tot fanV ps ∧ tot fanV ps ≤ 800000 := by
  have hlen := valid_len h
  have hp := ((validB_parts ps).1 h).2.1.1
  have hat : ∀ k, k < ps.length → ptB (ps[k]?.getD (0, 0)) = true := fun k hk => by
    rw [List.getElem?_eq_getElem hk]
    exact hp _ (List.getElem_mem hk)
  have hs : ∀ s ∈ sidesL ps, -80000 ≤ fanV s ∧ fanV s ≤ 80000 := by
    intro s hs
    unfold sidesL at hs
    rw [List.mem_map] at hs
    obtain ⟨k, hk, rfl⟩ := hs
    have hk' : k < ps.length := by simpa using hk
    exact fan_tight (hat k hk') (hat _ (Nat.mod_lt _ (by omega)))
  have := sum_le (l := (sidesL ps).map fanV) (M := 80000) (fun x hx => by
    rw [List.mem_map] at hx
    obtain ⟨s, h1, rfl⟩ := hx
    exact hs s h1)
  have hl : ((sidesL ps).map fanV).length = ps.length := by unfold sidesL; simp
  rw [hl] at this
  unfold tot
  omega
end Geo
namespace Sh
def plS (cs : List Ct) : Sheet := ⟨1000, 1000, 1000, 1000, cs, 8⟩
theorem pl_truth {cs : List Ct} (h : cs.length ≤ 8) : truthB (plS cs) (1000, 1000) = true := by
  have := wrongTo_le (1000, 1000) cs cs.length
  unfold truthB plS inB wrongN
  dsimp only
  simp
  omega
theorem pl_list {cs : List Ct} (h : okB (plS cs) = true) : truthsL (plS cs) = [faOf (1000, 1000)] := one_truths (s := plS cs) (ok_of h) (pl_truth (ok_of h).n)
theorem pl_sp {cs : List Ct} (h : okB (plS cs) = true) : spE (plS cs) = 0 := sp_yes h (by rw [pl_list h]; simp)
theorem div_one {a b q : Int} (hb : 0 < b) (hq : 0 ≤ q) (h : a = q * b) : a.tdiv b = q ∧ (a + b - 1).tdiv b = q := by
  subst h
  have h0 := Int.mul_nonneg hq (Int.le_of_lt hb)
  refine ⟨Int.mul_tdiv_cancel _ (by omega), ?_⟩
  rw [Int.tdiv_eq_ediv_of_nonneg (by omega), show q * b + b - 1 = (b - 1) + q * b from by omega, Int.add_mul_ediv_right _ _ (by omega), Int.ediv_eq_zero_of_lt (by omega) (by omega)]
  omega
theorem pl_bounds {cs : List Ct} (h : okB (plS cs) = true) (N D : FaS → Int) {q : Int} (hD : 0 < D (faOf (1000, 1000))) (hq : 0 ≤ q ∧ q ≤ 9000000000000000000) (hN : N (faOf (1000, 1000)) = q * D (faOf (1000, 1000))) : lowF N D (truthsL (plS cs)) = q ∧ highF N D (truthsL (plS cs)) = q := by
  obtain ⟨h1, h2⟩ := div_one hD hq.1 hN
  unfold lowF highF
  rw [pl_list h]
  simp only [List.foldl_cons, List.foldl_nil]
  rw [h1, h2]
  unfold lowS highS
  constructor
  · rw [if_pos (by omega)]
  · split <;> omega
theorem fa1000 : (faOf (1000, 1000)).1 = (1000, 1000) := faOf_val (by unfold fsm; omega)
theorem pl_area {cs : List Ct} (h : okB (plS cs) = true) {t : Int} (ht : -80000000 ≤ t ∧ t ≤ 80000000) : areaLo (plS cs) t = absV t ∧ areaHi (plS cs) t = absV t := by
  have e : areaD (faOf (1000, 1000)) = 1000000 := by unfold areaD; rw [fa1000]; rfl
  exact pl_bounds h (fun _ => areaN t) areaD (by rw [e]; omega) (by unfold absV; omega) (by rw [e]; unfold areaN dist absV; omega)
theorem pl_len {cs : List Ct} (h : okB (plS cs) = true) {x y : Int} (hq : sqOk x y) : lenLo (plS cs) x y = x * x + y * y ∧ lenHi (plS cs) x y = x * x + y * y := by
  have hx := sq_bd hq.1
  have hy := sq_bd hq.2
  have e : sqD (faOf (1000, 1000)) = 1000000000000 := by unfold sqD; rw [fa1000]; rfl
  refine pl_bounds h (sqN x y) sqD (by rw [e]; omega) (by omega) ?_
  rw [e]
  unfold sqN
  rw [fa1000]
  dsimp only
  omega
theorem pl_agree {cs : List Ct} (h : okB (plS cs) = true) (t : Int) : knownV (agreeB t (absV t) 0) (truthsL (plS cs)) = 1 := by
  unfold knownV
  rw [pl_list h]
  have : agreeB t (absV t) 0 (faOf (1000, 1000)) = true := by
    unfold agreeB areaN areaD
    rw [fa1000]
    refine decide_eq_true ?_
    unfold dist absV
    dsimp only
    omega
  simp [this]
end Sh

set_option maxRecDepth 100000 in
set_option maxHeartbeats 8000000 in
theorem SheetsPlain_walk (A2 : Option Addr) (c2 : Nat) (ps : List Geo.Pt) (x1 x2 y1 y2 : Int) (A : Option Addr) (c : Nat) (cs : List Sh.Ct) (w : World) (hlc : cs.length ≤ maxLen) (hg : Cts w w.heap.size A cs) (hP : Prs w w.heap.size A2 ps) :
    Calls Try.prog 5 #[.slice A2 ps.length c2, .agg #[.int .i64 x1, .int .i64 x2, .int .i64 y1, .int .i64 y2], .slice A cs.length c] w (TruePost w) := by
  have HWK : Hid (∀ W, Calls Try.prog 15 #[] W fun e w' => e = .returned (.bool true) ∧ Below W.heap.size W w') := works_any
  have HCK : Hid (cs.length ≤ 40 → ∀ W, Below w.heap.size w W → Calls Try.prog 27 #[.agg (shV (Sh.plS cs) A c)] W (ErrPost (Sh.chkE (Sh.plS cs)) W)) := fun hl W hW => refCheck4_any (Sh.plS cs) A c W (by show cs.length ≤ _; omega) ((hg.keep hW).wider hW.size)
  have HPO : Hid (∀ W, Below w.heap.size w W → Calls Try.prog 14 #[.slice A2 ps.length c2] W fun e w' => e = .returned (.bool (Sh.polyB ps)) ∧ Below W.heap.size W w') := fun W hW => isPoly_any A2 c2 ps W (prs_keep hP hW)
  have HX1 : Hid (∀ W, Calls Try.prog 28 #[.agg #[.int .i64 x1, .int .i64 x2]] W fun e w' => e = .returned (.bool (Geo.ptB (x1, x2))) ∧ Below W.heap.size W w') := fun W => IsPoint_any x1 x2 W
  have HX2 : Hid (∀ W, Calls Try.prog 28 #[.agg #[.int .i64 y1, .int .i64 y2]] W fun e w' => e = .returned (.bool (Geo.ptB (y1, y2))) ∧ Below W.heap.size W w') := fun W => IsPoint_any y1 y2 W
  have HTI : Hid (Sh.polyB ps = true → ∀ W, Below w.heap.size w W → Calls Try.prog 29 #[.slice A2 ps.length c2] W (TwoPost (Geo.tot Geo.fanV ps) 0 W)) := fun h W hW => by
    have hv := (Bool.and_eq_true_iff.1 h).2
    have := Twice_any A2 c2 ps (by have := Geo.valid_len hv; omega) W (prs_keep hP hW)
    rw [Geo.whenV_yes hv, Geo.errV_yes hv] at this
    exact this
  have HTW : Hid (Sh.polyB ps = true → ∀ W, Below w.heap.size w W → Calls Try.prog 32 #[.slice A2 ps.length c2] W fun e w' => e = .returned (.int .i64 (Geo.tot Geo.fanV ps)) ∧ Below W.heap.size W w') := fun h W hW => by
    have hv := (Bool.and_eq_true_iff.1 h).2
    have hlen := Geo.valid_len hv
    have := TwiceOf_any A2 c2 ps (Geo.valid_sm hv) (by omega) (by omega) W (prs_keep hP hW)
    rw [← Geo.twice_eq ps (by omega)] at this
    exact this
  have HT : Hid (Sh.polyB ps = true → -800000 ≤ Geo.tot Geo.fanV ps ∧ Geo.tot Geo.fanV ps ≤ 800000) := fun h => Geo.tot_tight (Bool.and_eq_true_iff.1 h).2
  have HAR : Hid (Sh.okB (Sh.plS cs) = true → Sh.polyB ps = true → ∀ W, Below w.heap.size w W → Calls Try.prog 23 #[.agg (shV (Sh.plS cs) A c), .slice A2 ps.length c2] W (SpanEPost (Sh.absV (Geo.tot Geo.fanV ps)) (Sh.absV (Geo.tot Geo.fanV ps)) 0 W)) := fun h h2 W hW => by
    have := Area_yes (Sh.plS cs) (Sh.pl_sp h) A c A2 c2 ps (Bool.and_eq_true_iff.1 h2).2 W ((hg.keep hW).wider hW.size) (prs_keep hP hW)
    have ha := Sh.pl_area h (t := Geo.tot Geo.fanV ps) (by have := HT.out h2; omega)
    rw [ha.1, ha.2] at this
    exact this
  have HLE : Hid (Sh.okB (Sh.plS cs) = true → Geo.ptB (x1, x2) = true → Geo.ptB (y1, y2) = true → ∀ W, Below w.heap.size w W → Calls Try.prog 24 #[.agg (shV (Sh.plS cs) A c), .agg #[.int .i64 x1, .int .i64 x2], .agg #[.int .i64 y1, .int .i64 y2]] W (SpanEPost ((y1 - x1) * (y1 - x1) + (y2 - x2) * (y2 - x2)) ((y1 - x1) * (y1 - x1) + (y2 - x2) * (y2 - x2)) 0 W)) := fun h h2 h3 W hW => by
    have := Length_yes (Sh.plS cs) (x1, x2) (y1, y2) A c W (by have := (Sh.ok_of h).n; omega) ((hg.keep hW).wider hW.size) (Sh.pl_sp h) h2 h3
    have ha := Sh.pl_len h (Sh.pt_sq h2 h3)
    rw [ha.1, ha.2] at this
    exact this
  have HAG : Hid (Sh.okB (Sh.plS cs) = true → Sh.polyB ps = true → ∀ W, Below w.heap.size w W → Calls Try.prog 30 #[.agg (shV (Sh.plS cs) A c), .slice A2 ps.length c2, .int .i64 (Sh.absV (Geo.tot Geo.fanV ps)), .int .i64 0] W (TwoPost 1 0 W)) := fun h h2 W hW => by
    have := Agrees_yes (Sh.plS cs) (Sh.pl_sp h) A c A2 c2 ps (Bool.and_eq_true_iff.1 h2).2 (Sh.absV (Geo.tot Geo.fanV ps)) 0 (by have := HT.out h2; unfold Sh.absV; omega) (by omega) W ((hg.keep hW).wider hW.size) (prs_keep hP hW)
    rw [Sh.pl_agree h] at this
    exact this
  have HPT : Hid (Geo.ptB (x1, x2) = true → Geo.ptB (y1, y2) = true → Sh.sqOk (y1 - x1) (y2 - x2)) := fun h h2 => Sh.pt_sq h h2
  have HCE : Hid ((Sh.okB (Sh.plS cs) = true ∧ Sh.chkE (Sh.plS cs) = 0) ∨ (Sh.okB (Sh.plS cs) = false ∧ Sh.chkE (Sh.plS cs) = 40)) := Sh.chk_or _
  unfold shV at HCK HAR HLE HAG
  generalize Geo.tot Geo.fanV ps = T at *
  generalize Sh.okB (Sh.plS cs) = OB at *
  generalize Sh.chkE (Sh.plS cs) = CE at *
  generalize Sh.polyB ps = PB at *
  generalize Geo.ptB (x1, x2) = b1 at *
  generalize Geo.ptB (y1, y2) = b2 at *
  unfold Sh.plS at HCK HAR HLE HAG
  dsimp only at HCK HAR HLE HAG
  clear hg hP
  have hmx : cs.length ≤ 140737488355328 * 100000 := by unfold maxLen at hlc; omega
  generalize ps.length = np at *
  generalize cs.length = nc at *
  by_cases hb : 40 < nc
  · have hi : (40 : Int) < nc := by omega
    clear hb
    go_enter Try.func5, Try.ntmps5
    go_wp2_with fail
    have bX1 := (BoxS.new w 44 #[.int .i64 x1, .int .i64 x2, .int .i64 y1, .int .i64 y2]).alloc (.cells #[.int .i64 1000, .int .i64 1000, .int .i64 1000, .int .i64 1000, .slice A nc c, .int .i64 8] 26)
    have bS1 := BoxS.new (w.alloc (.cells #[.int .i64 x1, .int .i64 x2, .int .i64 y1, .int .i64 y2] 44)) 26 #[.int .i64 1000, .int .i64 1000, .int .i64 1000, .int .i64 1000, .slice A nc c, .int .i64 8]
    rw [World.size_alloc] at bS1
    have hB1 : Below w.heap.size w ((w.alloc (.cells #[.int .i64 x1, .int .i64 x2, .int .i64 y1, .int .i64 y2] 44)).alloc (.cells #[.int .i64 1000, .int .i64 1000, .int .i64 1000, .int .i64 1000, .slice A nc c, .int .i64 8] 26)) := by (repeat' (first | (with_reducible exact Below.refl _ _) | (with_reducible assumption) | (with_reducible refine Below.alloc ?_ ?_ _) | (with_reducible refine Below.drew ?_) | (with_reducible refine Below.setCell ?_ ?_ _) | go_size | (exact (by simp)) | omega))
    generalize World.alloc (World.alloc w _) _ = w1 at *
    refine (HWK.out _).mono ?_
    rintro e w9 ⟨rfl, hb9⟩
    have hB9 := hB1.trans (hb9.mono hB1.size)
    go_wp2_with fail
    go_returns
    exact ⟨rfl, hB9⟩
  · have hi : ¬ (40 : Int) < nc := by omega
    have HCK2 := Lib.hid (HCK.out (by omega))
    clear hb HCK
    cases OB with
    | false =>
      have hce : CE = 40 := by rcases HCE.out with h | h; · cases h.1
                               · exact h.2
      subst hce
      go_enter Try.func5, Try.ntmps5
      go_wp2_with fail
      have bX1 := (BoxS.new w 44 #[.int .i64 x1, .int .i64 x2, .int .i64 y1, .int .i64 y2]).alloc (.cells #[.int .i64 1000, .int .i64 1000, .int .i64 1000, .int .i64 1000, .slice A nc c, .int .i64 8] 26)
      have bS1 := BoxS.new (w.alloc (.cells #[.int .i64 x1, .int .i64 x2, .int .i64 y1, .int .i64 y2] 44)) 26 #[.int .i64 1000, .int .i64 1000, .int .i64 1000, .int .i64 1000, .slice A nc c, .int .i64 8]
      rw [World.size_alloc] at bS1
      have hB1 : Below w.heap.size w ((w.alloc (.cells #[.int .i64 x1, .int .i64 x2, .int .i64 y1, .int .i64 y2] 44)).alloc (.cells #[.int .i64 1000, .int .i64 1000, .int .i64 1000, .int .i64 1000, .slice A nc c, .int .i64 8] 26)) := by (repeat' (first | (with_reducible exact Below.refl _ _) | (with_reducible assumption) | (with_reducible refine Below.alloc ?_ ?_ _) | (with_reducible refine Below.drew ?_) | (with_reducible refine Below.setCell ?_ ?_ _) | go_size | (exact (by simp)) | omega))
      generalize World.alloc (World.alloc w _) _ = w1 at *
      obtain ⟨⟨s0, s1, s2⟩, s3, s4, s5⟩ := boxS6 bS1
      refine (HCK2.out _ hB1).mono ?_
      rintro e w2 ⟨rfl, hb2⟩
      have bX2 := bX1.below hb2
      have bS2 := bS1.below hb2
      have hB2 := hB1.trans (hb2.mono hB1.size)
      clear bX1 bS1 hb2 hB1 
      go_wp2_with fail
      refine (HWK.out _).mono ?_
      rintro e w9 ⟨rfl, hb9⟩
      have hB9 := hB2.trans (hb9.mono hB2.size)
      go_wp2_with fail
      go_returns
      exact ⟨rfl, hB9⟩
    | true =>
      have hce : CE = 0 := by rcases HCE.out with h | h; · exact h.2
                              · cases h.1
      subst hce
      cases PB with
      | false =>
        go_enter Try.func5, Try.ntmps5
        go_wp2_with fail
        have bX1 := (BoxS.new w 44 #[.int .i64 x1, .int .i64 x2, .int .i64 y1, .int .i64 y2]).alloc (.cells #[.int .i64 1000, .int .i64 1000, .int .i64 1000, .int .i64 1000, .slice A nc c, .int .i64 8] 26)
        have bS1 := BoxS.new (w.alloc (.cells #[.int .i64 x1, .int .i64 x2, .int .i64 y1, .int .i64 y2] 44)) 26 #[.int .i64 1000, .int .i64 1000, .int .i64 1000, .int .i64 1000, .slice A nc c, .int .i64 8]
        rw [World.size_alloc] at bS1
        have hB1 : Below w.heap.size w ((w.alloc (.cells #[.int .i64 x1, .int .i64 x2, .int .i64 y1, .int .i64 y2] 44)).alloc (.cells #[.int .i64 1000, .int .i64 1000, .int .i64 1000, .int .i64 1000, .slice A nc c, .int .i64 8] 26)) := by (repeat' (first | (with_reducible exact Below.refl _ _) | (with_reducible assumption) | (with_reducible refine Below.alloc ?_ ?_ _) | (with_reducible refine Below.drew ?_) | (with_reducible refine Below.setCell ?_ ?_ _) | go_size | (exact (by simp)) | omega))
        generalize World.alloc (World.alloc w _) _ = w1 at *
        refine (HCK2.out _ hB1).mono ?_
        rintro e w2 ⟨rfl, hb2⟩
        have bX2 := bX1.below hb2
        have bS2 := bS1.below hb2
        have hB2 := hB1.trans (hb2.mono hB1.size)
        clear bX1 bS1 hb2 hB1 
        go_wp2_with fail
        refine (HPO.out _ hB2).mono ?_
        rintro e w3 ⟨rfl, hb3⟩
        have bX3 := bX2.below hb3
        have bS3 := bS2.below hb3
        have hB3 := hB2.trans (hb3.mono hB2.size)
        clear bX2 bS2 hb3 hB2 
        go_wp2_with fail
        refine (HWK.out _).mono ?_
        rintro e w9 ⟨rfl, hb9⟩
        have hB9 := hB3.trans (hb9.mono hB3.size)
        go_wp2_with fail
        go_returns
        exact ⟨rfl, hB9⟩
      | true =>
        cases b1 with
        | false =>
          go_enter Try.func5, Try.ntmps5
          go_wp2_with fail
          have bX1 := (BoxS.new w 44 #[.int .i64 x1, .int .i64 x2, .int .i64 y1, .int .i64 y2]).alloc (.cells #[.int .i64 1000, .int .i64 1000, .int .i64 1000, .int .i64 1000, .slice A nc c, .int .i64 8] 26)
          have bS1 := BoxS.new (w.alloc (.cells #[.int .i64 x1, .int .i64 x2, .int .i64 y1, .int .i64 y2] 44)) 26 #[.int .i64 1000, .int .i64 1000, .int .i64 1000, .int .i64 1000, .slice A nc c, .int .i64 8]
          rw [World.size_alloc] at bS1
          have hB1 : Below w.heap.size w ((w.alloc (.cells #[.int .i64 x1, .int .i64 x2, .int .i64 y1, .int .i64 y2] 44)).alloc (.cells #[.int .i64 1000, .int .i64 1000, .int .i64 1000, .int .i64 1000, .slice A nc c, .int .i64 8] 26)) := by (repeat' (first | (with_reducible exact Below.refl _ _) | (with_reducible assumption) | (with_reducible refine Below.alloc ?_ ?_ _) | (with_reducible refine Below.drew ?_) | (with_reducible refine Below.setCell ?_ ?_ _) | go_size | (exact (by simp)) | omega))
          generalize World.alloc (World.alloc w _) _ = w1 at *
          refine (HCK2.out _ hB1).mono ?_
          rintro e w2 ⟨rfl, hb2⟩
          have bX2 := bX1.below hb2
          have bS2 := bS1.below hb2
          have hB2 := hB1.trans (hb2.mono hB1.size)
          clear bX1 bS1 hb2 hB1 
          go_wp2_with fail
          refine (HPO.out _ hB2).mono ?_
          rintro e w3 ⟨rfl, hb3⟩
          have bX3 := bX2.below hb3
          have bS3 := bS2.below hb3
          have hB3 := hB2.trans (hb3.mono hB2.size)
          clear bX2 bS2 hb3 hB2 
          obtain ⟨p0, p1, p2, p3⟩ := boxS4 bX3
          go_wp2_with fail
          refine (HX1.out _).mono ?_
          rintro e w4 ⟨rfl, hb4⟩
          have bX4 := bX3.below hb4
          have bS4 := bS3.below hb4
          have hB4 := hB3.trans (hb4.mono hB3.size)
          clear bX3 bS3 hb4 hB3 p0 p1 p2 p3
          go_wp2_with fail
          refine (HWK.out _).mono ?_
          rintro e w9 ⟨rfl, hb9⟩
          have hB9 := hB4.trans (hb9.mono hB4.size)
          go_wp2_with fail
          go_returns
          exact ⟨rfl, hB9⟩
        | true =>
          cases b2 with
          | false =>
            go_enter Try.func5, Try.ntmps5
            go_wp2_with fail
            have bX1 := (BoxS.new w 44 #[.int .i64 x1, .int .i64 x2, .int .i64 y1, .int .i64 y2]).alloc (.cells #[.int .i64 1000, .int .i64 1000, .int .i64 1000, .int .i64 1000, .slice A nc c, .int .i64 8] 26)
            have bS1 := BoxS.new (w.alloc (.cells #[.int .i64 x1, .int .i64 x2, .int .i64 y1, .int .i64 y2] 44)) 26 #[.int .i64 1000, .int .i64 1000, .int .i64 1000, .int .i64 1000, .slice A nc c, .int .i64 8]
            rw [World.size_alloc] at bS1
            have hB1 : Below w.heap.size w ((w.alloc (.cells #[.int .i64 x1, .int .i64 x2, .int .i64 y1, .int .i64 y2] 44)).alloc (.cells #[.int .i64 1000, .int .i64 1000, .int .i64 1000, .int .i64 1000, .slice A nc c, .int .i64 8] 26)) := by (repeat' (first | (with_reducible exact Below.refl _ _) | (with_reducible assumption) | (with_reducible refine Below.alloc ?_ ?_ _) | (with_reducible refine Below.drew ?_) | (with_reducible refine Below.setCell ?_ ?_ _) | go_size | (exact (by simp)) | omega))
            generalize World.alloc (World.alloc w _) _ = w1 at *
            refine (HCK2.out _ hB1).mono ?_
            rintro e w2 ⟨rfl, hb2⟩
            have bX2 := bX1.below hb2
            have bS2 := bS1.below hb2
            have hB2 := hB1.trans (hb2.mono hB1.size)
            clear bX1 bS1 hb2 hB1 
            go_wp2_with fail
            refine (HPO.out _ hB2).mono ?_
            rintro e w3 ⟨rfl, hb3⟩
            have bX3 := bX2.below hb3
            have bS3 := bS2.below hb3
            have hB3 := hB2.trans (hb3.mono hB2.size)
            clear bX2 bS2 hb3 hB2 
            obtain ⟨p0, p1, p2, p3⟩ := boxS4 bX3
            go_wp2_with fail
            refine (HX1.out _).mono ?_
            rintro e w4 ⟨rfl, hb4⟩
            have bX4 := bX3.below hb4
            have bS4 := bS3.below hb4
            have hB4 := hB3.trans (hb4.mono hB3.size)
            clear bX3 bS3 hb4 hB3 p0 p1 p2 p3
            obtain ⟨p0, p1, p2, p3⟩ := boxS4 bX4
            go_wp2_with fail
            refine (HX2.out _).mono ?_
            rintro e w5 ⟨rfl, hb5⟩
            have bX5 := bX4.below hb5
            have bS5 := bS4.below hb5
            have hB5 := hB4.trans (hb5.mono hB4.size)
            clear bX4 bS4 hb5 hB4 p0 p1 p2 p3
            go_wp2_with fail
            refine (HWK.out _).mono ?_
            rintro e w9 ⟨rfl, hb9⟩
            have hB9 := hB5.trans (hb9.mono hB5.size)
            go_wp2_with fail
            go_returns
            exact ⟨rfl, hB9⟩
          | true =>
            have HTI2 := Lib.hid (HTI.out rfl)
            have HTW2 := Lib.hid (HTW.out rfl)
            have HAR2 := Lib.hid (HAR.out rfl rfl)
            have HLE2 := Lib.hid (HLE.out rfl rfl rfl)
            have HAG2 := Lib.hid (HAG.out rfl rfl)
            have hT := HT.out rfl
            have hq := HPT.out rfl rfl
            clear HTI HTW HAR HLE HAG HT HPT HCE
            have HAB : Hid (∀ W, Calls Try.prog 31 #[.int .i64 T] W fun e w' => e = .returned (.int .i64 (Sh.absV T)) ∧ w' = W) := fun W => absL_any T W (by omega)
            have HAQ : Hid (∀ W, Calls Try.prog 31 #[.int .i64 T] W fun e w' => e = .returned (.int .i64 (Sh.absV T)) ∧ W = w') := fun W => (absL_any T W (by omega)).mono (fun e w' h => ⟨h.1, h.2.symm⟩)
            generalize Sh.absV T = aT at *
            clear hT
            have hx := Sh.sq_bd hq.1
            have hy := Sh.sq_bd hq.2
            have hq1 := hq.1
            have hq2 := hq.2
            have ex : (y1 - x1) * (y1 - x1) = (x1 - y1) * (x1 - y1) := by grind
            have ey : (y2 - x2) * (y2 - x2) = (x2 - y2) * (x2 - y2) := by grind
            rw [ex] at hx HLE2
            rw [ey] at hy HLE2
            have hw1 : IntKind.i64.wrap (x1 - y1) = x1 - y1 := IntWalk.i64_in _ (by omega)
            have hw2 : IntKind.i64.wrap (x2 - y2) = x2 - y2 := IntWalk.i64_in _ (by omega)
            obtain ⟨X, hX⟩ : ∃ X, X = (x1 - y1) * (x1 - y1) := ⟨_, rfl⟩
            obtain ⟨Y, hY⟩ : ∃ Y, Y = (x2 - y2) * (x2 - y2) := ⟨_, rfl⟩
            rw [← hX] at hx HLE2
            rw [← hY] at hy HLE2
            have hw3 : IntKind.i64.wrap ((x1 - y1) * (x1 - y1)) = X := by rw [← hX]; exact IntWalk.i64_in _ (by omega)
            have hw4 : IntKind.i64.wrap ((x2 - y2) * (x2 - y2)) = Y := by rw [← hY]; exact IntWalk.i64_in _ (by omega)
            obtain ⟨Q, hQ⟩ : ∃ Q, Q = X + Y := ⟨_, rfl⟩
            rw [← hQ] at HLE2
            have hw5 : IntKind.i64.wrap (X + Y) = Q := by rw [← hQ]; exact IntWalk.i64_in _ (by omega)
            clear hX hY hQ hx hy hq hq1 hq2 ex ey
            go_enter Try.func5, Try.ntmps5
            go_wp2_with fail
            have bX1 := (BoxS.new w 44 #[.int .i64 x1, .int .i64 x2, .int .i64 y1, .int .i64 y2]).alloc (.cells #[.int .i64 1000, .int .i64 1000, .int .i64 1000, .int .i64 1000, .slice A nc c, .int .i64 8] 26)
            have bS1 := BoxS.new (w.alloc (.cells #[.int .i64 x1, .int .i64 x2, .int .i64 y1, .int .i64 y2] 44)) 26 #[.int .i64 1000, .int .i64 1000, .int .i64 1000, .int .i64 1000, .slice A nc c, .int .i64 8]
            rw [World.size_alloc] at bS1
            have hB1 : Below w.heap.size w ((w.alloc (.cells #[.int .i64 x1, .int .i64 x2, .int .i64 y1, .int .i64 y2] 44)).alloc (.cells #[.int .i64 1000, .int .i64 1000, .int .i64 1000, .int .i64 1000, .slice A nc c, .int .i64 8] 26)) := by (repeat' (first | (with_reducible exact Below.refl _ _) | (with_reducible assumption) | (with_reducible refine Below.alloc ?_ ?_ _) | (with_reducible refine Below.drew ?_) | (with_reducible refine Below.setCell ?_ ?_ _) | go_size | (exact (by simp)) | omega))
            generalize World.alloc (World.alloc w _) _ = w1 at *
            refine (HCK2.out _ hB1).mono ?_
            rintro e w2 ⟨rfl, hb2⟩
            have bX2 := bX1.below hb2
            have bS2 := bS1.below hb2
            have hB2 := hB1.trans (hb2.mono hB1.size)
            clear bX1 bS1 hb2 hB1 HCK2
            go_wp2_with fail
            refine (HPO.out _ hB2).mono ?_
            rintro e w3 ⟨rfl, hb3⟩
            have bX3 := bX2.below hb3
            have bS3 := bS2.below hb3
            have hB3 := hB2.trans (hb3.mono hB2.size)
            clear bX2 bS2 hb3 hB2 HPO
            obtain ⟨p0, p1, p2, p3⟩ := boxS4 bX3
            go_wp2_with fail
            refine (HX1.out _).mono ?_
            rintro e w4 ⟨rfl, hb4⟩
            have bX4 := bX3.below hb4
            have bS4 := bS3.below hb4
            have hB4 := hB3.trans (hb4.mono hB3.size)
            clear bX3 bS3 hb4 hB3 p0 p1 p2 p3 HX1
            obtain ⟨p0, p1, p2, p3⟩ := boxS4 bX4
            go_wp2_with fail
            refine (HX2.out _).mono ?_
            rintro e w5 ⟨rfl, hb5⟩
            have bX5 := bX4.below hb5
            have bS5 := bS4.below hb5
            have hB5 := hB4.trans (hb5.mono hB4.size)
            clear bX4 bS4 hb5 hB4 p0 p1 p2 p3 HX2
            go_wp2_with fail
            refine (HTI2.out _ hB5).mono ?_
            rintro e w6 ⟨rfl, hb6⟩
            have bX6 := bX5.below hb6
            have bS6 := bS5.below hb6
            have hB6 := hB5.trans (hb6.mono hB5.size)
            clear bX5 bS5 hb6 hB5 HTI2
            obtain ⟨⟨s0, s1, s2⟩, s3, s4, s5⟩ := boxS6 bS6
            have lx6 := bX6.lt
            have ls6 := bS6.lt
            go_wp2_with fail
            refine (HAR2.out _ hB6).mono ?_
            rintro e w7 ⟨rfl, hb7⟩
            have bX7 := bX6.below hb7
            have bS7 := bS6.below hb7
            have hB7 := hB6.trans (hb7.mono hB6.size)
            clear bX6 bS6 hb7 hB6 HAR2 s0 s1 s2 s3 s4 s5 lx6 ls6
            obtain ⟨⟨s0, s1, s2⟩, s3, s4, s5⟩ := boxS6 bS7
            obtain ⟨p0, p1, p2, p3⟩ := boxS4 bX7
            have lx7 := bX7.lt
            have ls7 := bS7.lt
            go_wp2_with fail
            have bA8 := BoxS.new w7 23 #[.int .i64 aT, .int .i64 aT]
            have hbx : Below w7.heap.size w7 (w7.alloc (.cells #[.int .i64 aT, .int .i64 aT] 23)) := (Below.refl _ _).alloc (Nat.le_refl _) _
            have bX8 := bX7.below hbx
            have bS8 := bS7.below hbx
            have hB8 := hB7.trans (hbx.mono hB7.size)
            obtain ⟨BA, hBA⟩ : ∃ B, B = w7.heap.size := ⟨_, rfl⟩
            rw [← hBA] at bA8
            have k1 : w.heap.size + 1 < BA := by omega
            rw [← hBA]
            clear s0 s1 s2 s3 s4 s5 p0 p1 p2 p3 lx7 ls7 bX7 bS7 hB7 hbx hBA
            generalize World.alloc w7 _ = w8 at *
            refine (HLE2.out _ hB8).mono ?_
            rintro e w9 ⟨rfl, hb9⟩
            have bX9 := bX8.below hb9
            have bS9 := bS8.below hb9
            have bA9 := bA8.below hb9
            have hB9 := hB8.trans (hb9.mono hB8.size)
            clear bX8 bS8 bA8 hB8 hb9 HLE2
            obtain ⟨p0, p1, p2, p3⟩ := boxS4 bX9
            have lx9 := bX9.lt
            have ls9 := bS9.lt
            have la9 := bA9.lt
            go_wp2_with fail
            have bL10 := BoxS.new w9 23 #[.int .i64 Q, .int .i64 Q]
            have hbx : Below w9.heap.size w9 (w9.alloc (.cells #[.int .i64 Q, .int .i64 Q] 23)) := (Below.refl _ _).alloc (Nat.le_refl _) _
            have bX10 := bX9.below hbx
            have bS10 := bS9.below hbx
            have bA10 := bA9.below hbx
            have hB10 := hB9.trans (hbx.mono hB9.size)
            obtain ⟨BL, hBL⟩ : ∃ B, B = w9.heap.size := ⟨_, rfl⟩
            rw [← hBL] at bL10
            have k2 : BA < BL := by omega
            rw [← hBL]
            clear p0 p1 p2 p3 lx9 ls9 la9 bX9 bS9 bA9 hB9 hbx hBL
            generalize World.alloc w9 _ = w10 at *
            refine (wpIn_wide (n := 4)).1 ?_
            have hmo : Try.prog.follows .mixedOrders = true := by kernel_rfl
            have q0 : Below w10.heap.size w10 w10.drew := (Below.refl _ _).drew
            have KC : Hid (∀ W', Below w10.heap.size w10 W' → W'.cell? ⟨w.heap.size, 0, none⟩ = some (.int .i64 x1) ∧ W'.cell? ⟨w.heap.size, 1, none⟩ = some (.int .i64 x2) ∧ W'.cell? ⟨w.heap.size, 2, none⟩ = some (.int .i64 y1) ∧ W'.cell? ⟨w.heap.size, 3, none⟩ = some (.int .i64 y2)) := fun W' h => boxS4 (bX10.below h)
            refine wpIn_region_held (fun W' => Below w10.heap.size w10 W') 60 hmo ?_
            refine wpHeldIn_take (i := 0) (v := ?_) (plain_of (by kernel_rfl)) rfl (by kernel_rfl) (fun _ _ _ h => h) (yieldsSoIn_of (by kernel_rfl) ?_ (fun _ => rfl)) q0 ?_; rotate_left; focus (intro wq hw; clear hw; go_simp; try (with_reducible rfl))
            refine wpHeldIn_take (i := 1) (v := ?_) (plain_of (by kernel_rfl)) rfl (by kernel_rfl) (fun _ _ _ h => h) (yieldsSoIn_of (by kernel_rfl) ?_ (fun _ => rfl)) q0 ?_; rotate_left; focus (intro wq hw; clear hw; go_simp; try (with_reducible rfl))
            refine wpHeldIn_take (i := 2) (v := ?_) (plain_of (by kernel_rfl)) rfl (by kernel_rfl) (fun _ _ _ h => h) (yieldsSoIn_of (by kernel_rfl) ?_ (fun _ => rfl)) q0 ?_; rotate_left; focus (intro wq hw; have kq := KC.out wq hw; clear hw; go_simp; try (with_reducible rfl))
            refine wpHeldIn_take (i := 3) (v := ?_) (plain_of (by kernel_rfl)) rfl (by kernel_rfl) (fun _ _ _ h => h) (yieldsSoIn_of (by kernel_rfl) ?_ (fun _ => rfl)) q0 ?_; rotate_left; focus (intro wq hw; clear hw; go_simp; try (with_reducible rfl))
            refine wpHeldIn_take (i := 4) (v := ?_) (plain_of (by kernel_rfl)) rfl (by kernel_rfl) (fun _ _ _ h => h) (yieldsSoIn_of (by kernel_rfl) ?_ (fun _ => rfl)) q0 ?_; rotate_left; focus (intro wq hw; clear hw; go_simp; try (with_reducible rfl))
            refine wpHeldIn_take (i := 5) (v := ?_) (plain_of (by kernel_rfl)) rfl (by kernel_rfl) (fun _ _ _ h => h) (yieldsSoIn_of (by kernel_rfl) ?_ (fun _ => rfl)) q0 ?_; rotate_left; focus (intro wq hw; have kq := KC.out wq hw; clear hw; go_simp; try (with_reducible rfl))
            refine wpHeldIn_take (i := 6) (v := ?_) (plain_of (by kernel_rfl)) rfl (by kernel_rfl) (fun _ _ _ h => h) (yieldsSoIn_of (by kernel_rfl) ?_ (fun _ => rfl)) q0 ?_; rotate_left; focus (intro wq hw; clear hw; go_simp; try (with_reducible rfl))
            refine wpHeldIn_take (i := 7) (v := ?_) (plain_of (by kernel_rfl)) rfl (by kernel_rfl) (fun _ _ _ h => h) (yieldsSoIn_of (by kernel_rfl) ?_ (fun _ => rfl)) q0 ?_; rotate_left; focus (intro wq hw; clear hw; go_simp; try (with_reducible rfl))
            refine wpHeldIn_take (i := 8) (v := ?_) (plain_of (by kernel_rfl)) rfl (by kernel_rfl) (fun _ _ _ h => h) (yieldsSoIn_of (by kernel_rfl) ?_ (fun _ => rfl)) q0 ?_; rotate_left; focus (intro wq hw; clear hw; go_simp; try (with_reducible rfl))
            refine wpHeldIn_take (i := 9) (v := ?_) (plain_of (by kernel_rfl)) rfl (by kernel_rfl) (fun _ _ _ h => h) (yieldsSoIn_of (by kernel_rfl) ?_ (fun _ => rfl)) q0 ?_; rotate_left; focus (intro wq hw; have kq := KC.out wq hw; clear hw; go_simp; try (with_reducible rfl))
            refine wpHeldIn_take (i := 10) (v := ?_) (plain_of (by kernel_rfl)) rfl (by kernel_rfl) (fun _ _ _ h => h) (yieldsSoIn_of (by kernel_rfl) ?_ (fun _ => rfl)) q0 ?_; rotate_left; focus (intro wq hw; clear hw; go_simp; try (with_reducible rfl))
            refine wpHeldIn_take (i := 11) (v := ?_) (plain_of (by kernel_rfl)) rfl (by kernel_rfl) (fun _ _ _ h => h) (yieldsSoIn_of (by kernel_rfl) ?_ (fun _ => rfl)) q0 ?_; rotate_left; focus (intro wq hw; clear hw; go_simp; try (with_reducible rfl))
            refine wpHeldIn_take (i := 12) (v := ?_) (plain_of (by kernel_rfl)) rfl (by kernel_rfl) (fun _ _ _ h => h) (yieldsSoIn_of (by kernel_rfl) ?_ (fun _ => rfl)) q0 ?_; rotate_left; focus (intro wq hw; have kq := KC.out wq hw; clear hw; go_simp; try (with_reducible rfl))
            refine wpHeldIn_take (i := 13) (v := ?_) (plain_of (by kernel_rfl)) rfl (by kernel_rfl) (fun _ _ _ h => h) (yieldsSoIn_of (by kernel_rfl) ?_ (fun _ => rfl)) q0 ?_; rotate_left; focus (intro wq hw; clear hw; go_simp; try (with_reducible rfl))
            refine wpHeldIn_take (i := 14) (v := ?_) (plain_of (by kernel_rfl)) rfl (by kernel_rfl) (fun _ _ _ h => h) (yieldsSoIn_of (by kernel_rfl) ?_ (fun _ => rfl)) q0 ?_; rotate_left; focus (intro wq hw; clear hw; go_simp; try (with_reducible rfl))
            refine wpHeldIn_take (i := 15) (v := ?_) (plain_of (by kernel_rfl)) rfl (by kernel_rfl) (fun _ _ _ h => h) (yieldsSoIn_of (by kernel_rfl) ?_ (fun _ => rfl)) q0 ?_; rotate_left; focus (intro wq hw; clear hw; go_simp; try (with_reducible rfl))
            refine wpHeldIn_done (by kernel_rfl) ?_ _
            go_simp
            have bS11 : BoxS w10.drew (w.heap.size + 1) 26 #[.int .i64 1000, .int .i64 1000, .int .i64 1000, .int .i64 1000, .slice A nc c, .int .i64 8] := bS10
            have bA11 : BoxS w10.drew BA 23 #[.int .i64 aT, .int .i64 aT] := bA10
            have bL11 : BoxS w10.drew BL 23 #[.int .i64 Q, .int .i64 Q] := bL10
            have hB11 := hB10.drew
            clear KC q0 bX10 bS10 bA10 bL10 hB10
            generalize World.drew w10 = w11 at *
            go_wp2_with fail
            have q0 : Below w11.heap.size w11 w11.drew := (Below.refl _ _).drew
            have KC : Hid (∀ W', Below w11.heap.size w11 W' → (W'.cell? ⟨w.heap.size + 1, 0, none⟩ = some (.int .i64 1000) ∧ W'.cell? ⟨w.heap.size + 1, 1, none⟩ = some (.int .i64 1000) ∧ W'.cell? ⟨w.heap.size + 1, 2, none⟩ = some (.int .i64 1000)) ∧ W'.cell? ⟨w.heap.size + 1, 3, none⟩ = some (.int .i64 1000) ∧ W'.cell? ⟨w.heap.size + 1, 4, none⟩ = some (.slice A nc c) ∧ W'.cell? ⟨w.heap.size + 1, 5, none⟩ = some (.int .i64 8)) := fun W' h => boxS6 (bS11.below h)
            have HTW3 : Hid (∀ W, Below w11.heap.size w11 W → Calls Try.prog 32 #[.slice A2 np c2] W fun e w' => e = .returned (.int .i64 T) ∧ Below W.heap.size W w') := fun W hW => HTW2.out W (hB11.trans (hW.mono hB11.size))
            have HAG3 : Hid (∀ W, Below w11.heap.size w11 W → Calls Try.prog 30 #[.agg #[.int .i64 1000, .int .i64 1000, .int .i64 1000, .int .i64 1000, .slice A nc c, .int .i64 8], .slice A2 np c2, .int .i64 aT, .int .i64 0] W (TwoPost 1 0 W)) := fun W hW => HAG2.out W (hB11.trans (hW.mono hB11.size))
            refine (wpIn_wide (n := 4)).1 ?_
            refine wpIn_region_held (fun W' => Below w11.heap.size w11 W') 60 hmo ?_
            refine wpHeldIn_take (i := 0) (v := ?_) (plain_of (by kernel_rfl)) rfl (by kernel_rfl) (fun _ _ _ h => h) (yieldsSoIn_of (by kernel_rfl) ?_ (fun _ => rfl)) q0 ?_; rotate_left; focus (intro wq hw; have kq := KC.out wq hw; clear hw; go_simp; try (with_reducible rfl))
            refine wpHeldIn_take (i := 1) (v := ?_) (plain_of (by kernel_rfl)) rfl (by kernel_rfl) (fun _ _ _ h => h) (yieldsSoIn_of (by kernel_rfl) ?_ (fun _ => rfl)) q0 ?_; rotate_left; focus (intro wq hw; clear hw; go_simp; try (with_reducible rfl))
            refine wpHeldIn_take (i := 2) (v := ?_) (plain_of (by kernel_rfl)) rfl (by kernel_rfl) (fun _ _ _ h => h) (yieldsSoIn_of (by kernel_rfl) ?_ (fun _ => rfl)) q0 ?_; rotate_left; focus (intro wq hw; clear hw; go_simp; try (with_reducible rfl))
            refine wpHeldIn_one (i := 3) (by kernel_rfl) (by kernel_rfl) rfl (by kernel_rfl) (fun K1 hK1 => ?_)
            go_simp
            refine ⟨trivial, (callsIn_wide.2 (HTW3.out _ q0)).mono ?_⟩
            rintro e w12 ⟨rfl, hb12⟩
            have q1 := q0.trans (hb12.mono q0.size)
            refine hK1 _ _ q1 ?_
            refine wpHeldIn_one (i := 4) (by kernel_rfl) (by kernel_rfl) rfl (by kernel_rfl) (fun K2 hK2 => ?_)
            go_simp
            refine ⟨trivial, (callsIn_wide.2 (HAB.out _)).mono ?_⟩
            rintro e w13 ⟨rfl, rfl⟩
            refine hK2 _ _ q1 ?_
            refine wpHeldIn_one (i := 5) (by kernel_rfl) (by kernel_rfl) rfl (by kernel_rfl) (fun K3 hK3 => ?_)
            go_simp
            refine ⟨trivial, (callsIn_wide.2 (HAG3.out _ q1)).mono ?_⟩
            rintro e w14 ⟨rfl, hb14⟩
            have q2 := q1.trans (hb14.mono q1.size)
            refine hK3 _ _ q2 ?_
            refine wpHeldIn_take (i := 6) (v := ?_) (plain_of (by kernel_rfl)) rfl (by kernel_rfl) (fun _ _ _ h => h) (yieldsSoIn_of (by kernel_rfl) ?_ (fun _ => rfl)) q2 ?_; rotate_left; focus (intro wq hw; clear hw; go_simp; try (with_reducible rfl))
            refine wpHeldIn_take (i := 7) (v := ?_) (plain_of (by kernel_rfl)) rfl (by kernel_rfl) (fun _ _ _ h => h) (yieldsSoIn_of (by kernel_rfl) ?_ (fun _ => rfl)) q2 ?_; rotate_left; focus (intro wq hw; clear hw; go_simp; try (with_reducible rfl))
            refine wpHeldIn_take (i := 8) (v := ?_) (plain_of (by kernel_rfl)) rfl (by kernel_rfl) (fun _ _ _ h => h) (yieldsSoIn_of (by kernel_rfl) ?_ (fun _ => rfl)) q2 ?_; rotate_left; focus (intro wq hw; clear hw; go_simp; try (with_reducible rfl))
            refine wpHeldIn_take (i := 9) (v := ?_) (plain_of (by kernel_rfl)) rfl (by kernel_rfl) (fun _ _ _ h => h) (yieldsSoIn_of (by kernel_rfl) ?_ (fun _ => rfl)) q2 ?_; rotate_left; focus (intro wq hw; clear hw; go_simp; try (with_reducible rfl))
            refine wpHeldIn_take (i := 10) (v := ?_) (plain_of (by kernel_rfl)) rfl (by kernel_rfl) (fun _ _ _ h => h) (yieldsSoIn_of (by kernel_rfl) ?_ (fun _ => rfl)) q2 ?_; rotate_left; focus (intro wq hw; clear hw; go_simp; try (with_reducible rfl))
            refine wpHeldIn_done (by kernel_rfl) ?_ _
            go_simp
            have bA15 := bA11.below q2
            have bL15 := bL11.below q2
            have hB15 := hB11.trans (q2.mono hB11.size)
            clear KC q0 q1 q2 hb12 hb14 bS11 bA11 bL11 hB11 HTW3 HAG3 HTW2 HAG2
            go_wp2_with fail
            have q0 : Below w14.heap.size w14 w14.drew := (Below.refl _ _).drew
            have KC : Hid (∀ W', Below w14.heap.size w14 W' → (W'.cell? ⟨BA, 0, none⟩ = some (.int .i64 aT) ∧ W'.cell? ⟨BA, 1, none⟩ = some (.int .i64 aT)) ∧ (W'.cell? ⟨BL, 0, none⟩ = some (.int .i64 Q) ∧ W'.cell? ⟨BL, 1, none⟩ = some (.int .i64 Q))) := fun W' h => ⟨boxS2 (bA15.below h), boxS2 (bL15.below h)⟩
            refine (wpIn_wide (n := 4)).1 ?_
            refine wpIn_region_held (fun W' => Below w14.heap.size w14 W') 60 hmo ?_
            refine wpHeldIn_take (i := 0) (v := ?_) (plain_of (by kernel_rfl)) rfl (by kernel_rfl) (fun _ _ _ h => h) (yieldsSoIn_of (by kernel_rfl) ?_ (fun _ => rfl)) q0 ?_; rotate_left; focus (intro wq hw; clear hw; go_simp; try (with_reducible rfl))
            refine wpHeldIn_take (i := 1) (v := ?_) (plain_of (by kernel_rfl)) rfl (by kernel_rfl) (fun _ _ _ h => h) (yieldsSoIn_of (by kernel_rfl) ?_ (fun _ => rfl)) q0 ?_; rotate_left; focus (intro wq hw; clear hw; go_simp; try (with_reducible rfl))
            refine wpHeldIn_take (i := 2) (v := ?_) (plain_of (by kernel_rfl)) rfl (by kernel_rfl) (fun _ _ _ h => h) (yieldsSoIn_of (by kernel_rfl) ?_ (fun _ => rfl)) q0 ?_; rotate_left; focus (intro wq hw; clear hw; go_simp; try (with_reducible rfl))
            refine wpHeldIn_take (i := 3) (v := ?_) (plain_of (by kernel_rfl)) rfl (by kernel_rfl) (fun _ _ _ h => h) (yieldsSoIn_of (by kernel_rfl) ?_ (fun _ => rfl)) q0 ?_; rotate_left; focus (intro wq hw; clear hw; go_simp; try (with_reducible rfl))
            refine wpHeldIn_take (i := 4) (v := ?_) (plain_of (by kernel_rfl)) rfl (by kernel_rfl) (fun _ _ _ h => h) (yieldsSoIn_of (by kernel_rfl) ?_ (fun _ => rfl)) q0 ?_; rotate_left; focus (intro wq hw; clear hw; go_simp; try (with_reducible rfl))
            refine wpHeldIn_take (i := 5) (v := ?_) (plain_of (by kernel_rfl)) rfl (by kernel_rfl) (fun _ _ _ h => h) (yieldsSoIn_of (by kernel_rfl) ?_ (fun _ => rfl)) q0 ?_; rotate_left; focus (intro wq hw; clear hw; go_simp; try (with_reducible rfl))
            refine wpHeldIn_take (i := 6) (v := ?_) (plain_of (by kernel_rfl)) rfl (by kernel_rfl) (fun _ _ _ h => h) (yieldsSoIn_of (by kernel_rfl) ?_ (fun _ => rfl)) q0 ?_; rotate_left; focus (intro wq hw; clear hw; go_simp; try (with_reducible rfl))
            refine wpHeldIn_take (i := 7) (v := ?_) (plain_of (by kernel_rfl)) rfl (by kernel_rfl) (fun _ _ _ h => h) (yieldsSoIn_of (by kernel_rfl) ?_ (fun _ => rfl)) q0 ?_; rotate_left; focus (intro wq hw; clear hw; go_simp; try (with_reducible rfl))
            refine wpHeldIn_take (i := 8) (v := ?_) (plain_of (by kernel_rfl)) rfl (by kernel_rfl) (fun _ _ _ h => h) (yieldsSoIn_of (by kernel_rfl) ?_ (fun _ => rfl)) q0 ?_; rotate_left; focus (intro wq hw; clear hw; go_simp; try (with_reducible rfl))
            refine wpHeldIn_take (i := 9) (v := ?_) (plain_of (by kernel_rfl)) rfl (by kernel_rfl) (fun _ _ _ h => h) (yieldsSoIn_of (by kernel_rfl) ?_ (fun _ => rfl)) q0 ?_; rotate_left; focus (intro wq hw; clear hw; go_simp; try (with_reducible rfl))
            refine wpHeldIn_take (i := 10) (v := ?_) (plain_of (by kernel_rfl)) rfl (by kernel_rfl) (fun _ _ _ h => h) (yieldsSoIn_of (by kernel_rfl) ?_ (fun _ => rfl)) q0 ?_; rotate_left; focus (intro wq hw; clear hw; go_simp; try (with_reducible rfl))
            refine wpHeldIn_take (i := 11) (v := ?_) (plain_of (by kernel_rfl)) rfl (by kernel_rfl) (fun _ _ _ h => h) (yieldsSoIn_of (by kernel_rfl) ?_ (fun _ => rfl)) q0 ?_; rotate_left; focus (intro wq hw; clear hw; go_simp; try (with_reducible rfl))
            refine wpHeldIn_take (i := 12) (v := ?_) (plain_of (by kernel_rfl)) rfl (by kernel_rfl) (fun _ _ _ h => h) (yieldsSoIn_of (by kernel_rfl) ?_ (fun _ => rfl)) q0 ?_; rotate_left; focus (intro wq hw; clear hw; go_simp; try (with_reducible rfl))
            refine wpHeldIn_take (i := 13) (v := ?_) (plain_of (by kernel_rfl)) rfl (by kernel_rfl) (fun _ _ _ h => h) (yieldsSoIn_of (by kernel_rfl) ?_ (fun _ => rfl)) q0 ?_; rotate_left; focus (intro wq hw; clear hw; go_simp; try (with_reducible rfl))
            refine wpHeldIn_take (i := 14) (v := ?_) (plain_of (by kernel_rfl)) rfl (by kernel_rfl) (fun _ _ _ h => h) (yieldsSoIn_of (by kernel_rfl) ?_ (fun _ => rfl)) q0 ?_; rotate_left; focus (intro wq hw; clear hw; go_simp; try (with_reducible rfl))
            refine wpHeldIn_take (i := 15) (v := ?_) (plain_of (by kernel_rfl)) rfl (by kernel_rfl) (fun _ _ _ h => h) (yieldsSoIn_of (by kernel_rfl) ?_ (fun _ => rfl)) q0 ?_; rotate_left; focus (intro wq hw; have kq := KC.out wq hw; clear hw; go_simp; try (with_reducible rfl))
            refine wpHeldIn_take (i := 16) (v := ?_) (plain_of (by kernel_rfl)) rfl (by kernel_rfl) (fun _ _ _ h => h) (yieldsSoIn_of (by kernel_rfl) ?_ (fun _ => rfl)) q0 ?_; rotate_left; focus (intro wq hw; clear hw; go_simp; try (with_reducible rfl))
            refine wpHeldIn_take (i := 17) (v := .int .i64 aT) (plain_of (by kernel_rfl)) rfl (by kernel_rfl) (fun _ _ _ h => h) (yieldsSoIn_call (by kernel_rfl) ?_ rfl (fun _ => trivial) (fun m wq hw => callsIn_wide.2 ((HAQ.out wq).mono (fun e w' h => ⟨h.1, h.2.symm⟩)))) q0 ?_; focus (intro wq hw; clear hw; go_simp; try (with_reducible rfl))
            refine wpHeldIn_take (i := 18) (v := ?_) (plain_of (by kernel_rfl)) rfl (by kernel_rfl) (fun _ _ _ h => h) (yieldsSoIn_of (by kernel_rfl) ?_ (fun _ => rfl)) q0 ?_; rotate_left; focus (intro wq hw; clear hw; go_simp; try (with_reducible rfl))
            refine wpHeldIn_take (i := 19) (v := .int .i64 aT) (plain_of (by kernel_rfl)) rfl (by kernel_rfl) (fun _ _ _ h => h) (yieldsSoIn_call (by kernel_rfl) ?_ rfl (fun _ => trivial) (fun m wq hw => callsIn_wide.2 ((HAQ.out wq).mono (fun e w' h => ⟨h.1, h.2.symm⟩)))) q0 ?_; focus (intro wq hw; clear hw; go_simp; try (with_reducible rfl))
            refine wpHeldIn_take (i := 20) (v := ?_) (plain_of (by kernel_rfl)) rfl (by kernel_rfl) (fun _ _ _ h => h) (yieldsSoIn_of (by kernel_rfl) ?_ (fun _ => rfl)) q0 ?_; rotate_left; focus (intro wq hw; clear hw; go_simp; try (with_reducible rfl))
            refine wpHeldIn_take (i := 21) (v := ?_) (plain_of (by kernel_rfl)) rfl (by kernel_rfl) (fun _ _ _ h => h) (yieldsSoIn_of (by kernel_rfl) ?_ (fun _ => rfl)) q0 ?_; rotate_left; focus (intro wq hw; clear hw; go_simp; try (with_reducible rfl))
            refine wpHeldIn_take (i := 22) (v := ?_) (plain_of (by kernel_rfl)) rfl (by kernel_rfl) (fun _ _ _ h => h) (yieldsSoIn_of (by kernel_rfl) ?_ (fun _ => rfl)) q0 ?_; rotate_left; focus (intro wq hw; clear hw; go_simp; try (with_reducible rfl))
            refine wpHeldIn_take (i := 23) (v := ?_) (plain_of (by kernel_rfl)) rfl (by kernel_rfl) (fun _ _ _ h => h) (yieldsSoIn_of (by kernel_rfl) ?_ (fun _ => rfl)) q0 ?_; rotate_left; focus (intro wq hw; clear hw; go_simp; try (with_reducible rfl))
            refine wpHeldIn_take (i := 24) (v := ?_) (plain_of (by kernel_rfl)) rfl (by kernel_rfl) (fun _ _ _ h => h) (yieldsSoIn_of (by kernel_rfl) ?_ (fun _ => rfl)) q0 ?_; rotate_left; focus (intro wq hw; have kq := KC.out wq hw; clear hw; go_simp; try (with_reducible rfl))
            refine wpHeldIn_take (i := 25) (v := ?_) (plain_of (by kernel_rfl)) rfl (by kernel_rfl) (fun _ _ _ h => h) (yieldsSoIn_of (by kernel_rfl) ?_ (fun _ => rfl)) q0 ?_; rotate_left; focus (intro wq hw; clear hw; go_simp; try (with_reducible rfl))
            refine wpHeldIn_take (i := 26) (v := ?_) (plain_of (by kernel_rfl)) rfl (by kernel_rfl) (fun _ _ _ h => h) (yieldsSoIn_of (by kernel_rfl) ?_ (fun _ => rfl)) q0 ?_; rotate_left; focus (intro wq hw; clear hw; go_simp; try (with_reducible rfl))
            refine wpHeldIn_take (i := 27) (v := ?_) (plain_of (by kernel_rfl)) rfl (by kernel_rfl) (fun _ _ _ h => h) (yieldsSoIn_of (by kernel_rfl) ?_ (fun _ => rfl)) q0 ?_; rotate_left; focus (intro wq hw; clear hw; go_simp; try (with_reducible rfl))
            refine wpHeldIn_take (i := 28) (v := ?_) (plain_of (by kernel_rfl)) rfl (by kernel_rfl) (fun _ _ _ h => h) (yieldsSoIn_of (by kernel_rfl) ?_ (fun _ => rfl)) q0 ?_; rotate_left; focus (intro wq hw; clear hw; go_simp; try (with_reducible rfl))
            refine wpHeldIn_take (i := 29) (v := ?_) (plain_of (by kernel_rfl)) rfl (by kernel_rfl) (fun _ _ _ h => h) (yieldsSoIn_of (by kernel_rfl) ?_ (fun _ => rfl)) q0 ?_; rotate_left; focus (intro wq hw; clear hw; go_simp; try (with_reducible rfl))
            refine wpHeldIn_take (i := 30) (v := ?_) (plain_of (by kernel_rfl)) rfl (by kernel_rfl) (fun _ _ _ h => h) (yieldsSoIn_of (by kernel_rfl) ?_ (fun _ => rfl)) q0 ?_; rotate_left; focus (intro wq hw; clear hw; go_simp; try (with_reducible rfl))
            refine wpHeldIn_take (i := 31) (v := ?_) (plain_of (by kernel_rfl)) rfl (by kernel_rfl) (fun _ _ _ h => h) (yieldsSoIn_of (by kernel_rfl) ?_ (fun _ => rfl)) q0 ?_; rotate_left; focus (intro wq hw; clear hw; go_simp; try (with_reducible rfl))
            refine wpHeldIn_take (i := 32) (v := ?_) (plain_of (by kernel_rfl)) rfl (by kernel_rfl) (fun _ _ _ h => h) (yieldsSoIn_of (by kernel_rfl) ?_ (fun _ => rfl)) q0 ?_; rotate_left; focus (intro wq hw; clear hw; go_simp; try (with_reducible rfl))
            refine wpHeldIn_take (i := 33) (v := ?_) (plain_of (by kernel_rfl)) rfl (by kernel_rfl) (fun _ _ _ h => h) (yieldsSoIn_of (by kernel_rfl) ?_ (fun _ => rfl)) q0 ?_; rotate_left; focus (intro wq hw; clear hw; go_simp; try (with_reducible rfl))
            refine wpHeldIn_take (i := 34) (v := ?_) (plain_of (by kernel_rfl)) rfl (by kernel_rfl) (fun _ _ _ h => h) (yieldsSoIn_of (by kernel_rfl) ?_ (fun _ => rfl)) q0 ?_; rotate_left; focus (intro wq hw; clear hw; go_simp; try (with_reducible rfl))
            refine wpHeldIn_one (i := 35) (by kernel_rfl) (by kernel_rfl) rfl (by kernel_rfl) (fun K4 hK4 => ?_)
            go_simp
            refine ⟨trivial, (callsIn_wide.2 (HWK.out _)).mono ?_⟩
            rintro e w16 ⟨rfl, hb16⟩
            have q1 := q0.trans (hb16.mono q0.size)
            refine hK4 _ _ q1 ?_
            refine wpHeldIn_take (i := 36) (v := ?_) (plain_of (by kernel_rfl)) rfl (by kernel_rfl) (fun _ _ _ h => h) (yieldsSoIn_of (by kernel_rfl) ?_ (fun _ => rfl)) q1 ?_; rotate_left; focus (intro wq hw; clear hw; go_simp; try (with_reducible rfl))
            refine wpHeldIn_take (i := 37) (v := ?_) (plain_of (by kernel_rfl)) rfl (by kernel_rfl) (fun _ _ _ h => h) (yieldsSoIn_of (by kernel_rfl) ?_ (fun _ => rfl)) q1 ?_; rotate_left; focus (intro wq hw; clear hw; go_simp; try (with_reducible rfl))
            refine wpHeldIn_done (by kernel_rfl) ?_ _
            go_simp
            have hB17 := hB15.trans (q1.mono hB15.size)
            clear KC q0 q1 bA15 bL15 hB15
            go_wp2_with fail
            go_returns
            exact ⟨rfl, hB17⟩
end Go.Proofs.Ytgpmnkdagpcffaa
