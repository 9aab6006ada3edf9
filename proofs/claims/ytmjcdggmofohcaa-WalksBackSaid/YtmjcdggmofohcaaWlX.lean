/- Walks: how many elbows there are, and all their sweeps, by the program. -/
import Derived.Test.YtmjcdggmofohcaaWlW
namespace Go.Proofs.Ytmjcdggmofohcaa
open Go.RowKit Go.Shelf Go.Maps Go.Sort
attribute [local go_sem] Oper.semAt_some
set_option maxRecDepth 100000 in
set_option maxHeartbeats 8000000 in
theorem ManyW_err (t : Wl.Trk) (ws : List Wl.Pt) (A Aw : Option Addr) (c cw : Nat) (hl : t.ps.length ≤ 1000000000) (hlw : ws.length ≤ 1000000000) (w : World) (hP : Prs w w.heap.size A t.ps) (hQ : Prs w w.heap.size Aw ws) (h0 : Wl.setE t ws ≠ 0) :
    Calls Try.prog 29 #[.agg (trV t A c), .slice Aw ws.length cw] w (TwoPost 0 (Wl.setE t ws) w) := by
  have HC : Hid (∀ W, Below w.heap.size w W → Calls Try.prog 63 #[.agg (trV t A c), .slice Aw ws.length cw] W (McPost t A c Aw ws.length cw (Wl.setE t ws) W)) := fun W hW => setW_any t ws A Aw c cw hl hlw W (prs_keep hP hW) (prs_keep hQ hW)
  clear hP hQ hl hlw
  unfold McPost mcE at HC
  rw [if_neg h0] at HC
  generalize Wl.setE t ws = SE at *
  obtain ⟨ps, cl, lo, hi⟩ := t
  unfold trV at *
  dsimp only at *
  have hce : (SE == 0) = false := by simpa using h0
  have hcn : (SE != 0) = true := by simpa using h0
  go_enter Try.func29, Try.ntmps29
  go_wp2_with fail
  have hB1 : Below w.heap.size w (w.alloc (.cells #[.slice A ps.length c, .int .i64 cl, .int .i64 lo, .int .i64 hi] 26)) := by (repeat' (first | (with_reducible exact Below.refl _ _) | (with_reducible assumption) | (with_reducible refine Below.alloc ?_ ?_ _) | (with_reducible refine Below.drew ?_) | (with_reducible refine Below.setCell ?_ ?_ _) | go_size | (exact (by simp)) | omega))
  generalize World.alloc w _ = w1 at *
  refine (HC.out _ hB1).mono ?_
  rintro e w2 ⟨rfl, hb2⟩
  have hB2 := hB1.trans (hb2.mono hB1.size)
  go_wp2_with fail
  have hB3 : Below w.heap.size w (w2.alloc (.cells #[.slice none 0 0, .int .i64 0, .int .i64 0, .int .i64 0, .slice none 0 0] 70)) := hB2.alloc hB2.size _
  generalize World.alloc w2 _ = w3 at *
  try go_wp2_with fail
  go_returns
  exact ⟨rfl, hB3⟩
set_option maxRecDepth 100000 in
set_option maxHeartbeats 8000000 in
theorem ManyW_yes (t : Wl.Trk) (ws : List Wl.Pt) (A Aw : Option Addr) (c cw : Nat) (hl : t.ps.length ≤ 1000000000) (hlw : ws.length ≤ 1000000000) (w : World) (hP : Prs w w.heap.size A t.ps) (hQ : Prs w w.heap.size Aw ws) (h0 : Wl.setE t ws = 0) :
    Calls Try.prog 29 #[.agg (trV t A c), .slice Aw ws.length cw] w (TwoPost (Wl.elbsL t ws).length 0 w) := by
  have HC : Hid (∀ W, Below w.heap.size w W → Calls Try.prog 63 #[.agg (trV t A c), .slice Aw ws.length cw] W (McPost t A c Aw ws.length cw 0 W)) := fun W hW => by rw [← h0]; exact setW_any t ws A Aw c cw hl hlw W (prs_keep hP hW) (prs_keep hQ hW)
  obtain ⟨⟨ht, hw⟩, hne⟩ := Wl.setE_yes h0
  have HSEQ : Hid (∀ W, Below w.heap.size w W → SeqFarP Try.prog (ElbPr t ws W) 64 #[.agg (mcV t A c Aw ws.length cw)] #[] encEl w.heap.size (fun xs => xs.map Elb.es = Wl.elbsL t ws) (fun pre => pre.map Elb.es <+: Wl.elbsL t ws) 20000000 W) := fun W hW => elbows_far t ws A Aw c cw ht hw w.heap.size W hW.size (hP.keep hW) (hQ.keep hW)

  clear hP hQ hl hlw h0 ht hw hne

  generalize Wl.elbsL t ws = G at *
  unfold McPost mcE at HC
  rw [if_pos rfl] at HC
  obtain ⟨ps, cl, lo, hi⟩ := t
  unfold trV mcV at *
  dsimp only at *
  obtain ⟨n, hn⟩ : ∃ n : Nat, 9 ≤ n := ⟨9, Nat.le_refl _⟩
  have h1 : 1 ≤ n := by omega
  refine (callsIn_wide (n := n)).1 ?_
  refine callsIn_of_wp_marks Try.func29 rfl trivial ?_ rfl
  simp only [Try.ntmps29, List.size_toArray, List.length_cons, List.length_nil, Nat.reduceAdd, Nat.reduceSub, Array.replicate_succ, Array.replicate_zero, List.push_toArray, List.append_toArray, List.nil_append, List.cons_append]
  gi_wp2
  have hB1 : Below w.heap.size w (w.alloc (.cells #[.slice A ps.length c, .int .i64 cl, .int .i64 lo, .int .i64 hi] 26)) := by (repeat' (first | (with_reducible exact Below.refl _ _) | (with_reducible assumption) | (with_reducible refine Below.alloc ?_ ?_ _) | (with_reducible refine Below.drew ?_) | (with_reducible refine Below.setCell ?_ ?_ _) | go_size | (exact (by simp)) | omega))
  generalize World.alloc w _ = w1 at *
  refine ⟨trivial, (callsIn_wide.2 (HC.out _ hB1)).mono ?_⟩
  rintro e w2 ⟨rfl, hb2⟩
  have hB2 := hB1.trans (hb2.mono hB1.size)
  clear hb2 hB1 HC
  gi_wp2
  have bM := (BoxS.new w2 70 #[.slice A ps.length c, .int .i64 cl, .int .i64 lo, .int .i64 hi, .slice Aw ws.length cw]).alloc (.cells #[.int .i64 0] 3)
  have bN := BoxS.new (w2.alloc (.cells #[.slice A ps.length c, .int .i64 cl, .int .i64 lo, .int .i64 hi, .slice Aw ws.length cw] 70)) 3 #[.int .i64 0]
  rw [World.size_alloc] at bN
  have hB3 : Below w.heap.size w ((w2.alloc (.cells #[.slice A ps.length c, .int .i64 cl, .int .i64 lo, .int .i64 hi, .slice Aw ws.length cw] 70)).alloc (.cells #[.int .i64 0] 3)) := by have := hB2.size; (repeat' (first | (with_reducible exact Below.refl _ _) | (with_reducible assumption) | (with_reducible refine Below.alloc ?_ ?_ _) | (with_reducible refine Below.drew ?_) | (with_reducible refine Below.setCell ?_ ?_ _) | go_size | (exact (by simp)) | omega))
  have hsz : ((w2.alloc (.cells #[.slice A ps.length c, .int .i64 cl, .int .i64 lo, .int .i64 hi, .slice Aw ws.length cw] 70)).alloc (.cells #[.int .i64 0] 3)).heap.size = w2.heap.size + 2 := by simp
  have hws := hB2.size
  obtain ⟨W0, hW0⟩ : ∃ W0, ((w2.alloc (.cells #[.slice A ps.length c, .int .i64 cl, .int .i64 lo, .int .i64 hi, .slice Aw ws.length cw] 70)).alloc (.cells #[.int .i64 0] 3)) = W0 := ⟨_, rfl⟩
  rw [hW0] at bM bN hB3 hsz
  try rw [hW0]
  clear hW0 hB2
  refine wpIn_farP (n₀ := w.heap.size) (gf := 64) (pb := #[.agg #[.slice A ps.length c, .int .i64 cl, .int .i64 lo, .int .i64 hi, .slice Aw ws.length cw]]) (lb := #[]) rfl (enters_of Try.func64 (by kernel_rfl) rfl)
    (HSEQ.out W0 hB3) (Below.refl _ _) (by omega) (fun _ => rfl)
    (fun pre V => BoxS V (w2.heap.size + 1) 3 #[.int .i64 (pre.length : Nat)] ∧ Below w.heap.size w V)
    (fun _ _ _ => False)
    (OwnFrom.and (Own.from (boxS_own _ _ (fun pre : List Elb => #[.int .i64 (pre.length : Nat)])) _) (ownFrom_below (Nat.le_refl _) (by omega)))
    (fun _ _ _ _ _ hs _ _ => hs)
    ⟨bN, hB3⟩
    (fun x a' _ => a' = { tmps := #[.agg #[.slice A ps.length c, .int .i64 cl, .int .i64 lo, .int .i64 hi], .slice Aw ws.length cw, .pointer (some ⟨w.heap.size, 0, none⟩), undef, .int .i64 0, .int .i64 0, .pointer (some ⟨w2.heap.size, 0, none⟩), .int .i64 0, .pointer (some ⟨w2.heap.size + 1, 0, none⟩), .tuple #[.agg #[.slice A ps.length c, .int .i64 cl, .int .i64 lo, .int .i64 hi, .slice Aw ws.length cw], .int .i64 0], .agg #[.slice A ps.length c, .int .i64 cl, .int .i64 lo, .int .i64 hi], .slice Aw ws.length cw, .tuple #[.agg #[.slice A ps.length c, .int .i64 cl, .int .i64 lo, .int .i64 hi, .slice Aw ws.length cw], .int .i64 0], .agg #[.slice A ps.length c, .int .i64 cl, .int .i64 lo, .int .i64 hi, .slice Aw ws.length cw], .int .i64 0, .int .i64 0, .bool false, undef, .agg #[.slice A ps.length c, .int .i64 cl, .int .i64 lo, .int .i64 hi, .slice Aw ws.length cw], .func (.func 64) #[.agg #[.slice A ps.length c, .int .i64 cl, .int .i64 lo, .int .i64 hi, .slice Aw ws.length cw]] #[], .slice x.A x.es.length x.c, undef, undef, undef], defers := [] })
    (fun x a' _ X Y row hs hg hr => hs)
    ?assign ?body ?done ?stop
  case assign =>
    rintro l pre x V K hI hpr hK
    unfold encEl
    gi_wp2
    exact hK _ _ (Apart.refl _ _ _) hI (by go_simp)
  case body =>
    rintro l pre x a' V ⟨bN, hB⟩ rfl hlt
    have hL : (pre ++ [x]).length = pre.length + 1 := by simp
    have hL := Lib.hid hL
    obtain ⟨L, hLn⟩ : ∃ L, L = pre.length := ⟨_, rfl⟩
    rw [← hLn] at bN hL hlt
    have n0 := bN.cell 0 rfl
    have nf := bN.frozen 0
    have nl := bN.lt
    have hw1 : IntKind.i64.wrap ((L : Int) + 1) = (L : Int) + 1 := IntWalk.i64_in _ (by omega)
    have HL := Lib.hid hLn
    clear hLn
    gi_wp2
    refine ⟨Apart.setCell _ _ (by first | omega | (simp; done) | (simp; omega)) (by first | omega | (simp; done) | (simp; omega)) _, ?_, hB.setCell (p := ⟨w2.heap.size + 1, 0, none⟩) (by show w.heap.size ≤ w2.heap.size + 1; omega) _⟩
    rw [hL.out]
    exact bN.put9 0 (.int .i64 ((L : Int) + 1))
  case done =>
    rintro D zs V hD hzs ⟨bN, hB⟩ hK
    have hL : zs.length = G.length := by rw [← hzs, List.length_map]
    rw [hL] at bN
    have n0 := bN.cell 0 rfl
    gi_wp2
    refine ⟨by simp, .inl ⟨_, _, rfl, run_takeDeferred hK, ?_⟩⟩
    exact ⟨.tuple #[.int .i64 (G.length : Nat), .int .i64 0], by simp [results, Try.f29, go_sem], rfl, hB.trans (belowK_b (w := w) (Nat.le_refl _) V D _ _ (by omega) hK rfl rfl)⟩
  case stop =>
    rintro D cc pre V hD hpre h hK
    exact h.elim
theorem ManyW_any (t : Wl.Trk) (ws : List Wl.Pt) (A Aw : Option Addr) (c cw : Nat) (hl : t.ps.length ≤ 1000000000) (hlw : ws.length ≤ 1000000000) (w : World) (hP : Prs w w.heap.size A t.ps) (hQ : Prs w w.heap.size Aw ws) :
    Calls Try.prog 29 #[.agg (trV t A c), .slice Aw ws.length cw] w (TwoPost (if Wl.setE t ws = 0 then ((Wl.elbsL t ws).length : Int) else 0) (Wl.setE t ws) w) := by
  by_cases h0 : Wl.setE t ws = 0
  · rw [if_pos h0, h0]
    exact ManyW_yes t ws A Aw c cw hl hlw w hP hQ h0
  · rw [if_neg h0]
    exact ManyW_err t ws A Aw c cw hl hlw w hP hQ h0
end Go.Proofs.Ytmjcdggmofohcaa
