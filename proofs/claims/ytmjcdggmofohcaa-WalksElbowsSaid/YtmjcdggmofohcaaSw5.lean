/- Walks: sweeps and turns of elbows, by the reference. -/
import Derived.Test.YtmjcdggmofohcaaAr5
import Derived.Test.YtmjcdggmofohcaaWlM
namespace Go.Proofs.Ytmjcdggmofohcaa
open Go.RowKit
namespace Wl
theorem pts_pos {ws : List Pt} (h : ptsB ws = true) : 0 < ws.length := by
  unfold ptsB inB at h
  simp only [Bool.and_eq_true, decide_eq_true_eq] at h
  omega
end Wl
set_option maxRecDepth 100000 in
set_option maxHeartbeats 4000000 in
theorem AreElbows5_nil9 (t : Wl.Trk) (ws : List Wl.Pt) (A Aw Ae : Option Addr) (c cw ce : Nat) (hw0 : 0 < ws.length) (w : World) :
    Calls Try.prog 36 #[.agg (trV t A c), .slice Aw ws.length cw, .slice Ae 0 ce] w fun e w' => e = .returned (.bool false) ∧ Below w.heap.size w w' := by
  obtain ⟨ps, cl, lo, hi⟩ := t
  unfold trV at *
  dsimp only at *
  have hlb : ((0 : Int) != (ws.length : Int)) = true := by simp; omega
  go_enter Try.func36, Try.ntmps36
  go_wp2_with fail
  go_returns
  exact ⟨rfl, by (repeat' (first | (with_reducible exact Below.refl _ _) | (with_reducible assumption) | (with_reducible refine Below.alloc ?_ ?_ _) | (with_reducible refine Below.drew ?_) | (with_reducible refine Below.setCell ?_ ?_ _) | go_size | (exact (by simp)) | omega))⟩
theorem AreElbows5_all9 (t : Wl.Trk) (ws : List Wl.Pt) (es : List Int) (A Aw Ae : Option Addr) (c cw ce : Nat) (ht : Wl.trkB t = true) (hw : Wl.ptsB ws = true) (hle : es.length ≤ 1000000000) (hlw : ws.length ≤ 1000000000) (w : World) (hP : Prs w w.heap.size A t.ps) (hQ : Prs w w.heap.size Aw ws) (hE : 0 < es.length → Ints w w.heap.size (.slice Ae es.length ce) es) :
    Calls Try.prog 36 #[.agg (trV t A c), .slice Aw ws.length cw, .slice Ae es.length ce] w fun e w' => e = .returned (.bool (Wl.elbV t ws es)) ∧ Below w.heap.size w w' := by
  match es, hE, hle with
  | [], _, _ =>
    have h0 : 0 < ws.length := by
      unfold Wl.ptsB inB at hw
      simp only [Bool.and_eq_true, decide_eq_true_eq] at hw
      omega
    have e : Wl.elbV t ws [] = false := by
      unfold Wl.elbV
      have : decide (([] : List Int).length = ws.length) = false := decide_eq_false (by simp; omega)
      rw [this, Bool.false_and]
    rw [e]
    exact AreElbows5_nil9 t ws A Aw Ae c cw ce h0 w
  | x :: es, hE, hle => exact AreElbows5_any t ws (x :: es) A Aw Ae c cw ce ht hw hle hlw w hP hQ (hE (by simp))
namespace Wl
theorem stepV_cases {t : Trk} {a b : Int} (hc : t.cl = 1 → 3 ≤ t.ps.length) (ha : 0 ≤ a ∧ a < t.ps.length) (hb : 0 ≤ b ∧ b < t.ps.length) :
    (a = b → stepV t a b = 0) ∧ ((b = a + 1 ∨ t.cl = 1 ∧ b = (a + 1).tmod t.ps.length) → stepV t a b = 1) ∧ ((a = b + 1 ∨ t.cl = 1 ∧ a = (b + 1).tmod t.ps.length) → stepV t a b = -1) := by
  rw [tmod_next ha.1 ha.2, tmod_next hb.1 hb.2]
  unfold stepV
  by_cases h1 : t.cl = 1
  · have h3 := hc h1
    simp only [h1, true_and]
    refine ⟨fun h => ?_, fun h => ?_, fun h => ?_⟩
    · rw [if_neg (by omega), if_neg (by omega)]; omega
    · split at h
      · by_cases e : b = a + 1
        · omega
        · rw [if_neg (by omega), if_pos (by omega)]
      · rw [if_neg (by omega), if_neg (by omega)]; omega
    · split at h
      · by_cases e : a = b + 1
        · omega
        · rw [if_pos (by omega)]
      · rw [if_neg (by omega), if_neg (by omega)]; omega
  · simp only [h1, false_and, if_false, or_false]
    refine ⟨fun h => by omega, fun h => by omega, fun h => by omega⟩
end Wl
set_option maxRecDepth 100000 in
set_option maxHeartbeats 8000000 in
theorem step5v_any (t : Wl.Trk) (A : Option Addr) (c : Nat) (a b : Int) (hc : t.cl = 1 → 3 ≤ t.ps.length) (ha : 0 ≤ a ∧ a < t.ps.length) (hb : 0 ≤ b ∧ b < t.ps.length) (hl : t.ps.length ≤ 1000000000) (w : World) :
    Calls Try.prog 72 #[.agg (trV t A c), .int .i64 a, .int .i64 b] w fun e w' => ∃ s : Int, (Wl.nearB t a b = true → s = Wl.stepV t a b) ∧ e = .returned (.tuple #[.int .i64 s, .bool (Wl.nearB t a b)]) ∧ Below w.heap.size w w' := by
  have hn := Wl.near_iff hc ha hb
  have hsv := Wl.stepV_cases (t := t) (a := a) (b := b) hc ha hb
  obtain ⟨ps, cl, lo, hi⟩ := t
  unfold trV
  dsimp only at *
  generalize Wl.nearB ⟨ps, cl, lo, hi⟩ a b = N at *
  generalize Wl.stepV ⟨ps, cl, lo, hi⟩ a b = SV at *
  obtain ⟨n, hnn⟩ : ∃ n : Int, n = (ps.length : Int) := ⟨_, rfl⟩
  have w1 : IntKind.i64.wrap (a + 1) = a + 1 := IntWalk.i64_in _ (by omega)
  have w2 : IntKind.i64.wrap (b + 1) = b + 1 := IntWalk.i64_in _ (by omega)
  have hne : ((ps.length : Int) == 0) = false := by
    have : (ps.length : Int) ≠ 0 := by omega
    simpa using this
  have hne2 : ¬ (ps.length : Int) = 0 := by omega
  have hne3 : ¬ ps.length = 0 := by omega
  have hne4 : ¬ ps = [] := by intro e; subst e; simp at hne3
  obtain ⟨u, hu⟩ : ∃ u, u = (a + 1).tmod (ps.length : Int) := ⟨_, rfl⟩
  obtain ⟨v, hv⟩ : ∃ v, v = (b + 1).tmod (ps.length : Int) := ⟨_, rfl⟩
  have wu : IntKind.i64.wrap u = u := by
    rw [hu, Wl.tmod_next ha.1 ha.2]
    split
    · rfl
    · exact w1
  have wv : IntKind.i64.wrap v = v := by
    rw [hv, Wl.tmod_next hb.1 hb.2]
    split
    · rfl
    · exact w2
  rw [← hu, ← hv] at hn hsv
  have hu' := hu.symm
  have hv' := hv.symm
  have HN := Lib.hid hn
  have HSV := Lib.hid hsv
  clear hsv hn hnn hu hv hc hl
  by_cases x1 : a = b
  · have bx1 : (a == b) = true := by simpa using x1
    have HR : Hid (N = true) := HN.out.2 (.inl x1)
    have HV : Hid (SV = 0) := HSV.out.1 x1
    clear HSV HN x1
    go_enter Try.func72, Try.ntmps72
    go_wp2_with fail
    have bS1 := BoxS.new w 26 #[.slice A ps.length c, .int .i64 cl, .int .i64 lo, .int .i64 hi]
    have hB1 : Below w.heap.size w (w.alloc (.cells #[.slice A ps.length c, .int .i64 cl, .int .i64 lo, .int .i64 hi] 26)) := by (repeat' (first | (with_reducible exact Below.refl _ _) | (with_reducible assumption) | (with_reducible refine Below.alloc ?_ ?_ _) | (with_reducible refine Below.drew ?_) | (with_reducible refine Below.setCell ?_ ?_ _) | go_size | (exact (by simp)) | omega))
    generalize World.alloc w _ = w1 at *
    obtain ⟨s0, s1, s2, s3⟩ := boxS4 bS1
    have lS := bS1.lt
    go_wp2_with fail
    go_returns
    exact ⟨0, fun _ => HV.out.symm, by rw [HR.out]; rfl, hB1⟩
  · have bx1 : (a == b) = false := by simpa using x1
    by_cases x2 : b = a + 1
    · have bx2 : (b == (a + 1)) = true := by simpa using x2
      have HR : Hid (N = true) := HN.out.2 (.inr (.inl x2))
      have HV : Hid (SV = 1) := HSV.out.2.1 (.inl x2)
      clear HSV HN x1 x2
      go_enter Try.func72, Try.ntmps72
      go_wp2_with fail
      have bS1 := BoxS.new w 26 #[.slice A ps.length c, .int .i64 cl, .int .i64 lo, .int .i64 hi]
      have hB1 : Below w.heap.size w (w.alloc (.cells #[.slice A ps.length c, .int .i64 cl, .int .i64 lo, .int .i64 hi] 26)) := by (repeat' (first | (with_reducible exact Below.refl _ _) | (with_reducible assumption) | (with_reducible refine Below.alloc ?_ ?_ _) | (with_reducible refine Below.drew ?_) | (with_reducible refine Below.setCell ?_ ?_ _) | go_size | (exact (by simp)) | omega))
      generalize World.alloc w _ = w1 at *
      obtain ⟨s0, s1, s2, s3⟩ := boxS4 bS1
      have lS := bS1.lt
      go_wp2_with fail
      go_returns
      exact ⟨1, fun _ => HV.out.symm, by rw [HR.out]; rfl, hB1⟩
    · have bx2 : (b == (a + 1)) = false := by simpa using x2
      by_cases x3 : cl = 1
      · have bx3 : (cl == 1) = true := by simpa using x3
        by_cases x4 : b = u
        · have bx4 : (b == u) = true := by simpa using x4
          have HR : Hid (N = true) := HN.out.2 (.inr (.inr (.inl ⟨x3, x4⟩)))
          have HV : Hid (SV = 1) := HSV.out.2.1 (.inr ⟨x3, x4⟩)
          clear HSV HN x1 x2 x3 x4
          go_enter Try.func72, Try.ntmps72
          go_wp2_with fail
          have bS1 := BoxS.new w 26 #[.slice A ps.length c, .int .i64 cl, .int .i64 lo, .int .i64 hi]
          have hB1 : Below w.heap.size w (w.alloc (.cells #[.slice A ps.length c, .int .i64 cl, .int .i64 lo, .int .i64 hi] 26)) := by (repeat' (first | (with_reducible exact Below.refl _ _) | (with_reducible assumption) | (with_reducible refine Below.alloc ?_ ?_ _) | (with_reducible refine Below.drew ?_) | (with_reducible refine Below.setCell ?_ ?_ _) | go_size | (exact (by simp)) | omega))
          generalize World.alloc w _ = w1 at *
          obtain ⟨s0, s1, s2, s3⟩ := boxS4 bS1
          have lS := bS1.lt
          go_wp2_with fail
          go_returns
          exact ⟨1, fun _ => HV.out.symm, by rw [HR.out]; rfl, hB1⟩
        · have bx4 : (b == u) = false := by simpa using x4
          by_cases x5 : a = b + 1
          · have bx5 : (a == (b + 1)) = true := by simpa using x5
            have HR : Hid (N = true) := HN.out.2 (.inr (.inr (.inr (.inl x5))))
            have HV : Hid (SV = -1) := HSV.out.2.2 (.inl x5)
            clear HSV HN x1 x2 x3 x4 x5
            go_enter Try.func72, Try.ntmps72
            go_wp2_with fail
            have bS1 := BoxS.new w 26 #[.slice A ps.length c, .int .i64 cl, .int .i64 lo, .int .i64 hi]
            have hB1 : Below w.heap.size w (w.alloc (.cells #[.slice A ps.length c, .int .i64 cl, .int .i64 lo, .int .i64 hi] 26)) := by (repeat' (first | (with_reducible exact Below.refl _ _) | (with_reducible assumption) | (with_reducible refine Below.alloc ?_ ?_ _) | (with_reducible refine Below.drew ?_) | (with_reducible refine Below.setCell ?_ ?_ _) | go_size | (exact (by simp)) | omega))
            generalize World.alloc w _ = w1 at *
            obtain ⟨s0, s1, s2, s3⟩ := boxS4 bS1
            have lS := bS1.lt
            go_wp2_with fail
            go_returns
            exact ⟨-1, fun _ => HV.out.symm, by rw [HR.out]; rfl, hB1⟩
          · have bx5 : (a == (b + 1)) = false := by simpa using x5
            by_cases x6 : a = v
            · have bx6 : (a == v) = true := by simpa using x6
              have HR : Hid (N = true) := HN.out.2 (.inr (.inr (.inr (.inr ⟨x3, x6⟩))))
              have HV : Hid (SV = -1) := HSV.out.2.2 (.inr ⟨x3, x6⟩)
              clear HSV HN x1 x2 x3 x4 x5 x6
              go_enter Try.func72, Try.ntmps72
              go_wp2_with fail
              have bS1 := BoxS.new w 26 #[.slice A ps.length c, .int .i64 cl, .int .i64 lo, .int .i64 hi]
              have hB1 : Below w.heap.size w (w.alloc (.cells #[.slice A ps.length c, .int .i64 cl, .int .i64 lo, .int .i64 hi] 26)) := by (repeat' (first | (with_reducible exact Below.refl _ _) | (with_reducible assumption) | (with_reducible refine Below.alloc ?_ ?_ _) | (with_reducible refine Below.drew ?_) | (with_reducible refine Below.setCell ?_ ?_ _) | go_size | (exact (by simp)) | omega))
              generalize World.alloc w _ = w1 at *
              obtain ⟨s0, s1, s2, s3⟩ := boxS4 bS1
              have lS := bS1.lt
              go_wp2_with fail
              go_returns
              exact ⟨-1, fun _ => HV.out.symm, by rw [HR.out]; rfl, hB1⟩
            · have bx6 : (a == v) = false := by simpa using x6
              have HR : Hid (N = false) := by
                unfold Hid
                refine Bool.eq_false_iff.2 (fun h => ?_)
                have := HN.out.1 h
                omega
              clear HSV HN x1 x2 x3 x4 x5 x6
              go_enter Try.func72, Try.ntmps72
              go_wp2_with fail
              have bS1 := BoxS.new w 26 #[.slice A ps.length c, .int .i64 cl, .int .i64 lo, .int .i64 hi]
              have hB1 : Below w.heap.size w (w.alloc (.cells #[.slice A ps.length c, .int .i64 cl, .int .i64 lo, .int .i64 hi] 26)) := by (repeat' (first | (with_reducible exact Below.refl _ _) | (with_reducible assumption) | (with_reducible refine Below.alloc ?_ ?_ _) | (with_reducible refine Below.drew ?_) | (with_reducible refine Below.setCell ?_ ?_ _) | go_size | (exact (by simp)) | omega))
              generalize World.alloc w _ = w1 at *
              obtain ⟨s0, s1, s2, s3⟩ := boxS4 bS1
              have lS := bS1.lt
              go_wp2_with fail
              go_returns
              exact ⟨0, fun h => (by rw [HR.out] at h; cases h), by rw [HR.out]; rfl, hB1⟩
      · have bx3 : (cl == 1) = false := by simpa using x3
        by_cases x5 : a = b + 1
        · have bx5 : (a == (b + 1)) = true := by simpa using x5
          have HR : Hid (N = true) := HN.out.2 (.inr (.inr (.inr (.inl x5))))
          have HV : Hid (SV = -1) := HSV.out.2.2 (.inl x5)
          clear HSV HN x1 x2 x3 x5
          go_enter Try.func72, Try.ntmps72
          go_wp2_with fail
          have bS1 := BoxS.new w 26 #[.slice A ps.length c, .int .i64 cl, .int .i64 lo, .int .i64 hi]
          have hB1 : Below w.heap.size w (w.alloc (.cells #[.slice A ps.length c, .int .i64 cl, .int .i64 lo, .int .i64 hi] 26)) := by (repeat' (first | (with_reducible exact Below.refl _ _) | (with_reducible assumption) | (with_reducible refine Below.alloc ?_ ?_ _) | (with_reducible refine Below.drew ?_) | (with_reducible refine Below.setCell ?_ ?_ _) | go_size | (exact (by simp)) | omega))
          generalize World.alloc w _ = w1 at *
          obtain ⟨s0, s1, s2, s3⟩ := boxS4 bS1
          have lS := bS1.lt
          go_wp2_with fail
          go_returns
          exact ⟨-1, fun _ => HV.out.symm, by rw [HR.out]; rfl, hB1⟩
        · have bx5 : (a == (b + 1)) = false := by simpa using x5
          have HR : Hid (N = false) := by
            unfold Hid
            refine Bool.eq_false_iff.2 (fun h => ?_)
            have := HN.out.1 h
            omega
          clear HSV HN x1 x2 x3 x5
          go_enter Try.func72, Try.ntmps72
          go_wp2_with fail
          have bS1 := BoxS.new w 26 #[.slice A ps.length c, .int .i64 cl, .int .i64 lo, .int .i64 hi]
          have hB1 : Below w.heap.size w (w.alloc (.cells #[.slice A ps.length c, .int .i64 cl, .int .i64 lo, .int .i64 hi] 26)) := by (repeat' (first | (with_reducible exact Below.refl _ _) | (with_reducible assumption) | (with_reducible refine Below.alloc ?_ ?_ _) | (with_reducible refine Below.drew ?_) | (with_reducible refine Below.setCell ?_ ?_ _) | go_size | (exact (by simp)) | omega))
          generalize World.alloc w _ = w1 at *
          obtain ⟨s0, s1, s2, s3⟩ := boxS4 bS1
          have lS := bS1.lt
          go_wp2_with fail
          go_returns
          exact ⟨0, fun h => (by rw [HR.out] at h; cases h), by rw [HR.out]; rfl, hB1⟩
set_option maxRecDepth 100000 in
set_option maxHeartbeats 8000000 in
theorem SweepOf5_any (t : Wl.Trk) (ws : List Wl.Pt) (es : List Int) (A Aw Ae : Option Addr) (c cw ce : Nat) (hs : ∀ k, k < t.ps.length → Geo.sm (Wl.ptAt t.ps k)) (hsw : ∀ k, k < ws.length → Geo.sm (Wl.ptAt ws k)) (hin : ∀ k, k < es.length → 0 ≤ Wl.esAt es k ∧ Wl.esAt es k < t.ps.length) (hl : t.ps.length ≤ 1000000000) (hle : es.length = ws.length) (hlw : ws.length ≤ 8) (w : World) (hP : Prs w w.heap.size A t.ps) (hQ : Prs w w.heap.size Aw ws) (hE : Ints w w.heap.size (.slice Ae es.length ce) es) :
    Calls Try.prog 60 #[.agg (trV t A c), .slice Aw ws.length cw, .slice Ae es.length ce] w fun e w' => e = .returned (.int .i64 (Wl.sweepV t ws es)) ∧ Below w.heap.size w w' := by
  have HSV : Hid (Wl.sweepV t ws es = Wl.swTo t ws es es.length) := rfl
  have HS0 : Hid (Wl.swTo t ws es 0 = 0) := rfl
  have HSS : Hid (∀ k, k < es.length → Wl.swTo t ws es (k + 1) = Wl.swTo t ws es k + Wl.quad (Wl.ptAt t.ps (Wl.esAt es k).toNat) (Wl.ptAt ws k) (Wl.ptAt ws ((k + 1) % es.length)) (Wl.ptAt t.ps (Wl.esAt es ((k + 1) % es.length)).toNat)) := fun k hk => by
    show Wl.swTo t ws es k + Wl.quad _ _ _ _ = _
    unfold Wl.eAt
    rw [← hle, Nat.mod_eq_of_lt hk]
    rfl
  have HIN := Lib.hid hin
  have HSM := Lib.hid hs
  have HSW := Lib.hid hsw
  have HP := Lib.hid hP
  have HQ := Lib.hid hQ
  have HE := Lib.hid hE
  have HL := Lib.hid hle
  have hl8 : es.length ≤ 8 := by omega
  have hmo : Try.prog.follows .mixedOrders = true := by kernel_rfl
  obtain ⟨ps, cl, lo, hi⟩ := t
  unfold trV
  dsimp only at *
  generalize Wl.sweepV ⟨ps, cl, lo, hi⟩ ws es = R at *
  generalize Wl.swTo ⟨ps, cl, lo, hi⟩ ws es = SW at *
  clear hP hQ hE hle hs hsw hin
  go_enter Try.func60, Try.ntmps60
  go_wp2_with fail
  have bS1 := BoxS.new w 26 #[.slice A ps.length c, .int .i64 cl, .int .i64 lo, .int .i64 hi]
  have hB1 : Below w.heap.size w (w.alloc (.cells #[.slice A ps.length c, .int .i64 cl, .int .i64 lo, .int .i64 hi] 26)) := by (repeat' (first | (with_reducible exact Below.refl _ _) | (with_reducible assumption) | (with_reducible refine Below.alloc ?_ ?_ _) | (with_reducible refine Below.drew ?_) | (with_reducible refine Below.setCell ?_ ?_ _) | go_size | (exact (by simp)) | omega))
  generalize World.alloc w _ = w1 at *
  try go_wp2_with fail
  go_loopg [7, 8] es.length (fun g x5 x11 wx => ∃ k : Nat, Hid (k + g = es.length) ∧ (k : Int) ≤ es.length ∧ x11 = .int .i64 (k : Int) ∧ x5 = .int .i64 (SW k) ∧ Hid (-(8000000 * (k : Int)) ≤ SW k ∧ SW k ≤ 8000000 * (k : Int)) ∧ Below w.heap.size w wx ∧ BoxS wx w.heap.size 26 #[.slice A ps.length c, .int .i64 cl, .int .i64 lo, .int .i64 hi])
  case atStart => exact ⟨0, by simp [Hid], by omega, rfl, by rw [HS0.out], by unfold Hid; rw [HS0.out]; omega, hB1, bS1⟩
  case round =>
    clear hB1 bS1
    obtain ⟨k, hk, hk1, rfl, rfl, hbd, hB, bS⟩ := hrel
    have hk0 := Int.natCast_nonneg k
    by_cases hlt : (k : Int) < es.length
    · have hkn : k < es.length := by omega
      have hm : (k + 1) % es.length < es.length := Nat.mod_lt _ (by omega)
      have hkw : k < ws.length := by have := HL.out; omega
      have hmw : (k + 1) % es.length < ws.length := by have := HL.out; omega
      have HS := Lib.hid (HSS.out k hkn)
      obtain ⟨i0, i1⟩ := HIN.out k hkn
      obtain ⟨j0, j1⟩ := HIN.out _ hm
      have hek : es[k]? = some (Wl.esAt es k) := by unfold Wl.esAt; rw [List.getElem?_eq_getElem hkn]; rfl
      have hem : es[(k + 1) % es.length]? = some (Wl.esAt es ((k + 1) % es.length)) := by unfold Wl.esAt; rw [List.getElem?_eq_getElem hm]; rfl
      have hwk : ws[k]? = some (Wl.ptAt ws k) := by unfold Wl.ptAt; rw [List.getElem?_eq_getElem hkw]; rfl
      have hwm : ws[(k + 1) % es.length]? = some (Wl.ptAt ws ((k + 1) % es.length)) := by unfold Wl.ptAt; rw [List.getElem?_eq_getElem hmw]; rfl
      rcases HE.out with ⟨_, e⟩ | ⟨be, oe, cape, e, hbe, hce⟩
      · subst e; simp at hkn
      · injection e with eA _ ec
        subst eA ec
        have z0 := hce k _ hek
        have z1 := hce _ _ hem
        obtain ⟨bw, ow, rfl, hbw, hcw⟩ := HQ.out (by omega)
        obtain ⟨y0, y1⟩ := hcw k _ hwk
        obtain ⟨y2, y3⟩ := hcw _ _ hwm
        obtain ⟨bp, op, rfl, hbp, hcp⟩ := HP.out (by omega)
        have hr1 : ((k : Int) + 1) % (es.length : Int) = (((k + 1) % es.length : Nat) : Int) := by rw [Int.natCast_emod]; rfl
        have hr2 : ((k : Int) + 1).tmod (es.length : Int) = (((k + 1) % es.length : Nat) : Int) := by rw [Int.tmod_eq_emod_of_nonneg (by omega)]; exact hr1
        have hs2 := HSW.out k hkw
        have hs3 := HSW.out _ hmw
        clear hce hcw hek hem hwk hwm HSS HIN hr1
        generalize Wl.esAt es ((k + 1) % es.length) = ey at *
        generalize Wl.esAt es k = ex at *
        obtain ⟨i, hi'⟩ : ∃ i : Nat, ex = i := ⟨ex.toNat, by omega⟩
        obtain ⟨j, hj'⟩ : ∃ j : Nat, ey = j := ⟨ey.toNat, by omega⟩
        subst hi' hj'
        rw [Int.toNat_natCast, Int.toNat_natCast] at HS
        have hin : i < ps.length := by omega
        have hjn : j < ps.length := by omega
        have hs1 := HSM.out i hin
        have hs4 := HSM.out j hjn
        have hpi : ps[i]? = some (Wl.ptAt ps i) := by unfold Wl.ptAt; rw [List.getElem?_eq_getElem hin]; rfl
        have hpj : ps[j]? = some (Wl.ptAt ps j) := by unfold Wl.ptAt; rw [List.getElem?_eq_getElem hjn]; rfl
        obtain ⟨v0, v1⟩ := hcp i _ hpi
        obtain ⟨v2, v3⟩ := hcp j _ hpj
        generalize (k + 1) % es.length = r at *
        have hqb := Wl.quad_bd hs1 hs2 hs3 hs4
        have HD : Hid (∀ W, Prs W W.heap.size (some ⟨W.heap.size - 1, 0, none⟩) [] → True) := fun _ _ => trivial
        have HDB : Hid (∀ A' c' W, Prs W W.heap.size A' [Wl.ptAt ps i, Wl.ptAt ws k, Wl.ptAt ws r, Wl.ptAt ps j] → Calls Try.prog 53 #[.slice A' 4 c'] W fun e w' => e = .returned (.int .i64 (Wl.quad (Wl.ptAt ps i) (Wl.ptAt ws k) (Wl.ptAt ws r) (Wl.ptAt ps j))) ∧ Below W.heap.size W w') := fun A' c' W h => by
          have := Doubled5_any A' c' [Wl.ptAt ps i, Wl.ptAt ws k, Wl.ptAt ws r, Wl.ptAt ps j] (fun m hm => by
            match m, hm with
            | 0, _ => exact hs1
            | 1, _ => exact hs2
            | 2, _ => exact hs3
            | 3, _ => exact hs4
            | m + 4, hm => simp at hm; omega) (by simp) W h
          rw [Wl.dbl4] at this
          exact this
        have KC : Hid (∀ W', Below wr.heap.size wr W' → W'.cell? ⟨w.heap.size, 0, none⟩ = some (.slice (some ⟨bp, op, none⟩) ps.length c) ∧ (W'.cell? ⟨be, oe + k, none⟩ = some (.int .i64 (i : Int)) ∧ W'.cell? ⟨be, oe + r, none⟩ = some (.int .i64 (j : Int))) ∧ ((W'.cell? ⟨bp, op + i * 2, none⟩ = some (.int .i64 (Wl.ptAt ps i).1) ∧ W'.cell? ⟨bp, op + i * 2 + 1, none⟩ = some (.int .i64 (Wl.ptAt ps i).2)) ∧ W'.cell? ⟨bp, op + j * 2, none⟩ = some (.int .i64 (Wl.ptAt ps j).1) ∧ W'.cell? ⟨bp, op + j * 2 + 1, none⟩ = some (.int .i64 (Wl.ptAt ps j).2)) ∧ (W'.cell? ⟨bw, ow + k * 2, none⟩ = some (.int .i64 (Wl.ptAt ws k).1) ∧ W'.cell? ⟨bw, ow + k * 2 + 1, none⟩ = some (.int .i64 (Wl.ptAt ws k).2)) ∧ W'.cell? ⟨bw, ow + r * 2, none⟩ = some (.int .i64 (Wl.ptAt ws r).1) ∧ W'.cell? ⟨bw, ow + r * 2 + 1, none⟩ = some (.int .i64 (Wl.ptAt ws r).2)) := fun W' h => by
          have h2 := hB.trans (h.mono hB.size)
          exact ⟨(bS.below h).cell 0 rfl, ⟨(h2.cell (p := ⟨be, _, none⟩) hbe).trans z0, (h2.cell (p := ⟨be, _, none⟩) hbe).trans z1⟩, ⟨⟨(h2.cell (p := ⟨bp, _, none⟩) hbp).trans v0, (h2.cell (p := ⟨bp, _, none⟩) hbp).trans v1⟩, (h2.cell (p := ⟨bp, _, none⟩) hbp).trans v2, (h2.cell (p := ⟨bp, _, none⟩) hbp).trans v3⟩, ⟨(h2.cell (p := ⟨bw, _, none⟩) hbw).trans y0, (h2.cell (p := ⟨bw, _, none⟩) hbw).trans y1⟩, (h2.cell (p := ⟨bw, _, none⟩) hbw).trans y2, (h2.cell (p := ⟨bw, _, none⟩) hbw).trans y3⟩
        clear z0
        have hbr : be < wr.heap.size := by have := hB.size; omega
        clear hcp hpi hpj v0 v1 v2 v3 y0 y1 y2 y3 z1 HD hs1 hs2 hs3 hs4 HSM HSW
        generalize Wl.ptAt ps i = p1 at *
        generalize Wl.ptAt ps j = p4 at *
        generalize Wl.ptAt ws k = p2 at *
        generalize Wl.ptAt ws r = p3 at *
        generalize Wl.quad p1 p2 p3 p4 = qv at *
        have hw1 : IntKind.i64.wrap ((k : Int) + 1) = (k : Int) + 1 := IntWalk.i64_in _ (by omega)
        have hw2 : IntKind.i64.wrap (r : Int) = (r : Int) := IntWalk.i64_in _ (by omega)
        have hw3 : IntKind.i64.wrap (SW k + qv) = SW k + qv := IntWalk.i64_in _ (by have := hbd.out; omega)
        have hne : ¬ (es.length : Int) = 0 := by omega
        have hne2 : ¬ es.length = 0 := by omega
        have hne3 : ¬ es = [] := by intro e; subst e; simp at hne2
        have HBD : Hid (-(8000000 * ((k + 1 : Nat) : Int)) ≤ SW (k + 1) ∧ SW (k + 1) ≤ 8000000 * ((k + 1 : Nat) : Int)) := by
          have := hbd.out
          unfold Hid
          rw [HS.out]
          omega
        have d1 : decide ((k : Int) < 0) = false := decide_eq_false (by omega)
        have d2 : decide ((es.length : Int) ≤ (k : Int)) = false := decide_eq_false (by omega)
        have d3 : decide ((ws.length : Int) ≤ (k : Int)) = false := decide_eq_false (by omega)
        have d4 : decide (es.length ≤ k) = false := decide_eq_false (by omega)
        have d5 : decide (ws.length ≤ k) = false := decide_eq_false (by omega)
        have f1 : decide ((r : Int) < 0) = false := decide_eq_false (by omega)
        have f2 : decide ((es.length : Int) ≤ (r : Int)) = false := decide_eq_false (by omega)
        have f3 : decide ((ws.length : Int) ≤ (r : Int)) = false := decide_eq_false (by omega)
        have f4 : decide (es.length ≤ r) = false := decide_eq_false (by omega)
        have f5 : decide (ws.length ≤ r) = false := decide_eq_false (by omega)
        have g2 : decide ((ps.length : Int) ≤ (i : Int)) = false := decide_eq_false (by omega)
        have g4 : decide (ps.length ≤ i) = false := decide_eq_false (by omega)
        have h2 : decide ((ps.length : Int) ≤ (j : Int)) = false := decide_eq_false (by omega)
        have h4 : decide (ps.length ≤ j) = false := decide_eq_false (by omega)
        have g1 : decide ((i : Int) < 0) = false := decide_eq_false (by omega)
        have h1 : decide ((j : Int) < 0) = false := decide_eq_false (by omega)
        have q0 : Below wr.heap.size wr wr.drew := (Below.refl _ _).drew
        clear hqb hbd
        go_upto_region 6 with fail
        refine (wpIn_wide (n := 4)).1 ?_
        refine wpIn_region_held (fun W' => Below wr.heap.size wr W') 40 hmo ?_
        refine wpHeldIn_take (i := 0) (v := ?_) (plain_of (by kernel_rfl)) rfl (by kernel_rfl) (fun _ _ _ h => h) (yieldsSoIn_of (by kernel_rfl) ?_ (fun _ => rfl)) q0 ?_; rotate_left; focus (intro wq hw; clear hw; go_simp; try (with_reducible rfl))
        refine wpHeldIn_take (i := 1) (v := ?_) (plain_of (by kernel_rfl)) rfl (by kernel_rfl) (fun _ _ _ h => h) (yieldsSoIn_of (by kernel_rfl) ?_ (fun _ => rfl)) q0 ?_; rotate_left; focus (intro wq hw; clear hw; go_simp; try (with_reducible rfl))
        refine wpHeldIn_take (i := 2) (v := ?_) (plain_of (by kernel_rfl)) rfl (by kernel_rfl) (fun _ _ _ h => h) (yieldsSoIn_of (by kernel_rfl) ?_ (fun _ => rfl)) q0 ?_; rotate_left; focus (intro wq hw; have kq := KC.out wq hw; clear hw; go_simp; try (with_reducible rfl))
        refine wpHeldIn_take (i := 3) (v := ?_) (plain_of (by kernel_rfl)) rfl (by kernel_rfl) (fun _ _ _ h => h) (yieldsSoIn_of (by kernel_rfl) ?_ (fun _ => rfl)) q0 ?_; rotate_left; focus (intro wq hw; clear hw; go_simp; try (with_reducible rfl))
        refine wpHeldIn_take (i := 4) (v := ?_) (plain_of (by kernel_rfl)) rfl (by kernel_rfl) (fun _ _ _ h => h) (yieldsSoIn_of (by kernel_rfl) ?_ (fun _ => rfl)) q0 ?_; rotate_left; focus (intro wq hw; clear hw; go_simp; try (with_reducible rfl))
        refine wpHeldIn_take (i := 5) (v := ?_) (plain_of (by kernel_rfl)) rfl (by kernel_rfl) (fun _ _ _ h => h) (yieldsSoIn_of (by kernel_rfl) ?_ (fun _ => rfl)) q0 ?_; rotate_left; focus (intro wq hw; clear hw; go_simp; try (with_reducible rfl))
        refine wpHeldIn_take (i := 6) (v := ?_) (plain_of (by kernel_rfl)) rfl (by kernel_rfl) (fun _ _ _ h => h) (yieldsSoIn_of (by kernel_rfl) ?_ (fun _ => rfl)) q0 ?_; rotate_left; focus (intro wq hw; have kq := KC.out wq hw; clear hw; go_simp; try (with_reducible rfl))
        refine wpHeldIn_take (i := 7) (v := ?_) (plain_of (by kernel_rfl)) rfl (by kernel_rfl) (fun _ _ _ h => h) (yieldsSoIn_of (by kernel_rfl) ?_ (fun _ => rfl)) q0 ?_; rotate_left; focus (intro wq hw; clear hw; go_simp; try (with_reducible rfl))
        refine wpHeldIn_take (i := 8) (v := ?_) (plain_of (by kernel_rfl)) rfl (by kernel_rfl) (fun _ _ _ h => h) (yieldsSoIn_of (by kernel_rfl) ?_ (fun _ => rfl)) q0 ?_; rotate_left; focus (intro wq hw; have kq := KC.out wq hw; clear hw; go_simp; try (with_reducible rfl))
        refine wpHeldIn_take (i := 9) (v := ?_) (plain_of (by kernel_rfl)) rfl (by kernel_rfl) (fun _ _ _ h => h) (yieldsSoIn_of (by kernel_rfl) ?_ (fun _ => rfl)) q0 ?_; rotate_left; focus (intro wq hw; clear hw; go_simp; try (with_reducible rfl))
        refine wpHeldIn_take (i := 10) (v := ?_) (plain_of (by kernel_rfl)) rfl (by kernel_rfl) (fun _ _ _ h => h) (yieldsSoIn_of (by kernel_rfl) ?_ (fun _ => rfl)) q0 ?_; rotate_left; focus (intro wq hw; clear hw; go_simp; try (with_reducible rfl))
        refine wpHeldIn_take (i := 11) (v := ?_) (plain_of (by kernel_rfl)) rfl (by kernel_rfl) (fun _ _ _ h => h) (yieldsSoIn_of (by kernel_rfl) ?_ (fun _ => rfl)) q0 ?_; rotate_left; focus (intro wq hw; clear hw; go_simp; try (with_reducible rfl))
        refine wpHeldIn_take (i := 12) (v := ?_) (plain_of (by kernel_rfl)) rfl (by kernel_rfl) (fun _ _ _ h => h) (yieldsSoIn_of (by kernel_rfl) ?_ (fun _ => rfl)) q0 ?_; rotate_left; focus (intro wq hw; have kq := KC.out wq hw; clear hw; go_simp; try (with_reducible rfl))
        refine wpHeldIn_take (i := 13) (v := ?_) (plain_of (by kernel_rfl)) rfl (by kernel_rfl) (fun _ _ _ h => h) (yieldsSoIn_of (by kernel_rfl) ?_ (fun _ => rfl)) q0 ?_; rotate_left; focus (intro wq hw; clear hw; go_simp; try (with_reducible rfl))
        refine wpHeldIn_take (i := 14) (v := ?_) (plain_of (by kernel_rfl)) rfl (by kernel_rfl) (fun _ _ _ h => h) (yieldsSoIn_of (by kernel_rfl) ?_ (fun _ => rfl)) q0 ?_; rotate_left; focus (intro wq hw; clear hw; go_simp; try (with_reducible rfl))
        refine wpHeldIn_take (i := 15) (v := ?_) (plain_of (by kernel_rfl)) rfl (by kernel_rfl) (fun _ _ _ h => h) (yieldsSoIn_of (by kernel_rfl) ?_ (fun _ => rfl)) q0 ?_; rotate_left; focus (intro wq hw; clear hw; go_simp; try (with_reducible rfl))
        refine wpHeldIn_take (i := 16) (v := ?_) (plain_of (by kernel_rfl)) rfl (by kernel_rfl) (fun _ _ _ h => h) (yieldsSoIn_of (by kernel_rfl) ?_ (fun _ => rfl)) q0 ?_; rotate_left; focus (intro wq hw; have kq := KC.out wq hw; clear hw; go_simp; try (with_reducible rfl))
        refine wpHeldIn_take (i := 17) (v := ?_) (plain_of (by kernel_rfl)) rfl (by kernel_rfl) (fun _ _ _ h => h) (yieldsSoIn_of (by kernel_rfl) ?_ (fun _ => rfl)) q0 ?_; rotate_left; focus (intro wq hw; clear hw; go_simp; try (with_reducible rfl))
        refine wpHeldIn_take (i := 18) (v := ?_) (plain_of (by kernel_rfl)) rfl (by kernel_rfl) (fun _ _ _ h => h) (yieldsSoIn_of (by kernel_rfl) ?_ (fun _ => rfl)) q0 ?_; rotate_left; focus (intro wq hw; have kq := KC.out wq hw; clear hw; go_simp; try (with_reducible rfl))
        refine wpHeldIn_take (i := 19) (v := ?_) (plain_of (by kernel_rfl)) rfl (by kernel_rfl) (fun _ _ _ h => h) (yieldsSoIn_of (by kernel_rfl) ?_ (fun _ => rfl)) q0 ?_; rotate_left; focus (intro wq hw; clear hw; go_simp; try (with_reducible rfl))
        refine wpHeldIn_take (i := 20) (v := ?_) (plain_of (by kernel_rfl)) rfl (by kernel_rfl) (fun _ _ _ h => h) (yieldsSoIn_of (by kernel_rfl) ?_ (fun _ => rfl)) q0 ?_; rotate_left; focus (intro wq hw; clear hw; go_simp; try (with_reducible rfl))
        refine wpHeldIn_take (i := 21) (v := ?_) (plain_of (by kernel_rfl)) rfl (by kernel_rfl) (fun _ _ _ h => h) (yieldsSoIn_of (by kernel_rfl) ?_ (fun _ => rfl)) q0 ?_; rotate_left; focus (intro wq hw; clear hw; go_simp; try (with_reducible rfl))
        refine wpHeldIn_take (i := 22) (v := ?_) (plain_of (by kernel_rfl)) rfl (by kernel_rfl) (fun _ _ _ h => h) (yieldsSoIn_of (by kernel_rfl) ?_ (fun _ => rfl)) q0 ?_; rotate_left; focus (intro wq hw; have kq := KC.out wq hw; clear hw; go_simp; try (with_reducible rfl))
        refine wpHeldIn_take (i := 23) (v := ?_) (plain_of (by kernel_rfl)) rfl (by kernel_rfl) (fun _ _ _ h => h) (yieldsSoIn_of (by kernel_rfl) ?_ (fun _ => rfl)) q0 ?_; rotate_left; focus (intro wq hw; clear hw; go_simp; try (with_reducible rfl))
        refine wpHeldIn_take (i := 24) (v := ?_) (plain_of (by kernel_rfl)) rfl (by kernel_rfl) (fun _ _ _ h => h) (yieldsSoIn_of (by kernel_rfl) ?_ (fun _ => rfl)) q0 ?_; rotate_left; focus (intro wq hw; have kq := KC.out wq hw; clear hw; go_simp; try (with_reducible rfl))
        refine wpHeldIn_one (i := 25) (by kernel_rfl) (by kernel_rfl) rfl (by kernel_rfl) (fun K1 hK1 => ?_)
        go_simp
        have q1 : Below wr.heap.size wr ((wr.alloc (.cells #[.int .i64 p1.1, .int .i64 p1.2, .int .i64 p2.1, .int .i64 p2.2, .int .i64 p3.1, .int .i64 p3.2, .int .i64 p4.1, .int .i64 p4.2] 28)).drew) := ((Below.refl _ _).alloc (Nat.le_refl _) _).drew
        refine hK1 _ _ q1 ?_
        refine wpHeldIn_one (i := 26) (by kernel_rfl) (by kernel_rfl) rfl (by kernel_rfl) (fun K2 hK2 => ?_)
        go_simp
        refine ⟨trivial, (callsIn_wide.2 (HDB.out _ _ _ (prs_keep (prs4_new wr p1 p2 p3 p4) ((Below.refl _ _).drew)))).mono ?_⟩
        rintro e w5 ⟨rfl, hb5⟩
        have q2 := q1.trans (hb5.mono q1.size)
        refine hK2 _ _ q2 ?_
        refine wpHeldIn_take (i := 27) (v := ?_) (plain_of (by kernel_rfl)) rfl (by kernel_rfl) (fun _ _ _ h => h) (yieldsSoIn_of (by kernel_rfl) ?_ (fun _ => rfl)) q2 ?_; rotate_left; focus (intro wq hw; clear hw; go_simp; try (with_reducible rfl))
        refine wpHeldIn_take (i := 28) (v := ?_) (plain_of (by kernel_rfl)) rfl (by kernel_rfl) (fun _ _ _ h => h) (yieldsSoIn_of (by kernel_rfl) ?_ (fun _ => rfl)) q2 ?_; rotate_left; focus (intro wq hw; clear hw; go_simp; try (with_reducible rfl))
        refine wpHeldIn_done (by kernel_rfl) ?_ _
        go_simp
        have bS5 := bS.below q2
        have hB5 := hB.trans (q2.mono hB.size)
        clear KC q0 q1 q2 hb5
        go_wp2_with fail
        obtain ⟨g', hg'⟩ : ∃ g', gk = g' + 1 := ⟨gk - 1, by have := hk.out; omega⟩
        go_roundg g'
        case measure => omega
        case rel => exact ⟨k + 1, by have := hk.out; simp only [Hid]; omega, by omega, by go_num, by rw [HS.out], HBD, hB5, bS5⟩
    · have ek : k = es.length := by omega
      have HR : Hid (R = SW k) := by unfold Hid; rw [HSV.out, ek]
      clear ek
      go_wp2_with fail
      go_returns
      exact ⟨by rw [HR.out]; rfl, hB⟩
namespace Wl
theorem stTo_next {t : Trk} {es : List Int} {k : Nat} (hk : k < es.length) : stTo t es (k + 1) = stTo t es k + stepV t (esAt es k) (esAt es ((k + 1) % es.length)) := by
  show stTo t es k + stepV t (eAt es k) (eAt es (k + 1)) = _
  unfold eAt
  rw [Nat.mod_eq_of_lt hk]
  rfl
end Wl
set_option maxRecDepth 100000 in
set_option maxHeartbeats 8000000 in
theorem TurnsOf5_any (t : Wl.Trk) (es : List Int) (A Ae : Option Addr) (c ce : Nat) (hc : t.cl = 1 → 3 ≤ t.ps.length) (h0 : 0 < t.ps.length) (hin : ∀ k, k < es.length → 0 ≤ Wl.esAt es k ∧ Wl.esAt es k < t.ps.length) (hnr : ∀ k, k < es.length → Wl.nearB t (Wl.esAt es k) (Wl.esAt es ((k + 1) % es.length)) = true) (hl : t.ps.length ≤ 1000000000) (hle : es.length ≤ 1000000) (w : World) (hE : Ints w w.heap.size (.slice Ae es.length ce) es) :
    Calls Try.prog 62 #[.agg (trV t A c), .slice Ae es.length ce] w fun e w' => e = .returned (.int .i64 (Wl.turnsV t es)) ∧ Below w.heap.size w w' := by
  have HSTA : Hid (∀ k, k < es.length → ∀ W, Calls Try.prog 72 #[.agg (trV t A c), .int .i64 (Wl.esAt es k), .int .i64 (Wl.esAt es ((k + 1) % es.length))] W fun e w' => e = .returned (.tuple #[.int .i64 (Wl.stepV t (Wl.esAt es k) (Wl.esAt es ((k + 1) % es.length))), .bool true]) ∧ Below W.heap.size W w') := fun k hk W => by
    refine (step5v_any t A c _ _ hc (hin k hk) (hin _ (Nat.mod_lt _ (by omega))) hl W).mono ?_
    rintro e w' ⟨s, hs, rfl, hb⟩
    rw [hnr k hk] at hs
    rw [hs rfl, hnr k hk]
    exact ⟨rfl, hb⟩
  have HV : Hid (Wl.turnsV t es = (Wl.stTo t es es.length).tdiv t.ps.length) := rfl
  have HS0 : Hid (Wl.stTo t es 0 = 0) := rfl
  have HSS : Hid (∀ k, k < es.length → Wl.stTo t es (k + 1) = Wl.stTo t es k + Wl.stepV t (Wl.esAt es k) (Wl.esAt es ((k + 1) % es.length))) := fun k hk => Wl.stTo_next hk
  have HSB : Hid (∀ k, k < es.length → -1 ≤ Wl.stepV t (Wl.esAt es k) (Wl.esAt es ((k + 1) % es.length)) ∧ Wl.stepV t (Wl.esAt es k) (Wl.esAt es ((k + 1) % es.length)) ≤ 1) := fun k hk => by
    have := hnr k hk
    unfold Wl.nearB at this
    simp only [Bool.and_eq_true, decide_eq_true_eq] at this
    exact this
  have HE := Lib.hid hE
  have hmo : Try.prog.follows .mixedOrders = true := by kernel_rfl
  clear hE hin hnr hc
  generalize Wl.turnsV t es = R at *
  generalize Wl.stTo t es = ST at *
  generalize hsv : Wl.stepV t = SV at *
  clear hsv
  obtain ⟨ps, cl, lo, hi⟩ := t
  unfold trV at *
  dsimp only at *
  go_enter Try.func62, Try.ntmps62
  go_wp2_with fail
  have bS1 := BoxS.new w 26 #[.slice A ps.length c, .int .i64 cl, .int .i64 lo, .int .i64 hi]
  have hB1 : Below w.heap.size w (w.alloc (.cells #[.slice A ps.length c, .int .i64 cl, .int .i64 lo, .int .i64 hi] 26)) := by (repeat' (first | (with_reducible exact Below.refl _ _) | (with_reducible assumption) | (with_reducible refine Below.alloc ?_ ?_ _) | (with_reducible refine Below.drew ?_) | (with_reducible refine Below.setCell ?_ ?_ _) | go_size | (exact (by simp)) | omega))
  generalize World.alloc w _ = w1 at *
  try go_wp2_with fail
  go_loopg [5, 6, 7, 8] es.length (fun g x5 x6 x7 x8 wx => ∃ k : Nat, Hid (k + g = es.length) ∧ (k : Int) ≤ es.length ∧ x6 = .int .i64 (k : Int) ∧ x5 = .int .i64 (ST k) ∧ Hid (-(k : Int) ≤ ST k ∧ ST k ≤ (k : Int)) ∧ Below w.heap.size w wx ∧ BoxS wx w.heap.size 26 #[.slice A ps.length c, .int .i64 cl, .int .i64 lo, .int .i64 hi])
  case atStart => exact ⟨0, by simp [Hid], by omega, rfl, by rw [HS0.out], by unfold Hid; rw [HS0.out]; omega, hB1, bS1⟩
  case round =>
    clear hB1 bS1
    obtain ⟨k, hk, hk1, rfl, rfl, hbd, hB, bS⟩ := hrel
    have hk0 := Int.natCast_nonneg k
    by_cases hlt : (k : Int) < es.length
    · have hkn : k < es.length := by omega
      have hm : (k + 1) % es.length < es.length := Nat.mod_lt _ (by omega)
      have HS := Lib.hid (HSS.out k hkn)
      have HST := Lib.hid (HSTA.out k hkn)
      have HB2 := HSB.out k hkn
      have hek : es[k]? = some (Wl.esAt es k) := by unfold Wl.esAt; rw [List.getElem?_eq_getElem hkn]; rfl
      have hem : es[(k + 1) % es.length]? = some (Wl.esAt es ((k + 1) % es.length)) := by unfold Wl.esAt; rw [List.getElem?_eq_getElem hm]; rfl
      rcases HE.out with ⟨_, e⟩ | ⟨be, oe, cape, e, hbe, hce⟩
      · subst e; simp at hkn
      · injection e with eA _ ec
        subst eA ec
        have z0 := hce k _ hek
        have z1 := hce _ _ hem
        have hr1 : ((k : Int) + 1) % (es.length : Int) = (((k + 1) % es.length : Nat) : Int) := by rw [Int.natCast_emod]; rfl
        have hr2 : ((k : Int) + 1).tmod (es.length : Int) = (((k + 1) % es.length : Nat) : Int) := by rw [Int.tmod_eq_emod_of_nonneg (by omega)]; exact hr1
        have hw1 : IntKind.i64.wrap ((k : Int) + 1) = (k : Int) + 1 := IntWalk.i64_in _ (by omega)
        have hne : ¬ (es.length : Int) = 0 := by omega
        have hne2 : ¬ es.length = 0 := by omega
        have hne3 : ¬ es = [] := by intro e; subst e; simp at hne2
        have q0 : Below wr.heap.size wr wr.drew := (Below.refl _ _).drew
        have KC : Hid (∀ W', Below wr.heap.size wr W' → (W'.cell? ⟨w.heap.size, 0, none⟩ = some (.slice A ps.length c) ∧ W'.cell? ⟨w.heap.size, 1, none⟩ = some (.int .i64 cl) ∧ W'.cell? ⟨w.heap.size, 2, none⟩ = some (.int .i64 lo) ∧ W'.cell? ⟨w.heap.size, 3, none⟩ = some (.int .i64 hi)) ∧ W'.cell? ⟨be, oe + k, none⟩ = some (.int .i64 (Wl.esAt es k)) ∧ W'.cell? ⟨be, oe + (k + 1) % es.length, none⟩ = some (.int .i64 (Wl.esAt es ((k + 1) % es.length)))) := fun W' h => by
          have h2 := hB.trans (h.mono hB.size)
          exact ⟨boxS4 (bS.below h), (h2.cell (p := ⟨be, _, none⟩) hbe).trans z0, (h2.cell (p := ⟨be, _, none⟩) hbe).trans z1⟩
        clear hce hek hem z0 z1 HSS HSTA HSB
        generalize SV (Wl.esAt es k) (Wl.esAt es ((k + 1) % es.length)) = sv at *
        generalize Wl.esAt es ((k + 1) % es.length) = ey at *
        generalize Wl.esAt es k = ex at *
        generalize (k + 1) % es.length = r at *
        have hw2 : IntKind.i64.wrap (r : Int) = (r : Int) := IntWalk.i64_in _ (by omega)
        have hr0 : (0 : Int) ≤ (r : Int) := Int.natCast_nonneg r
        have hrl : (r : Int) < (es.length : Int) := by omega
        have d1 : decide ((k : Int) < 0) = false := decide_eq_false (by omega)
        have d2 : decide ((es.length : Int) ≤ (k : Int)) = false := decide_eq_false (by omega)
        have d4 : decide (es.length ≤ k) = false := decide_eq_false (by omega)
        have d5 : decide ((r : Int) < 0) = false := decide_eq_false (by omega)
        have d6 : decide ((es.length : Int) ≤ (r : Int)) = false := decide_eq_false (by omega)
        have d7 : decide (es.length ≤ r) = false := decide_eq_false (by omega)
        have hw3 : IntKind.i64.wrap (ST k + sv) = ST k + sv := IntWalk.i64_in _ (by have := hbd.out; omega)
        have HBD : Hid (-((k + 1 : Nat) : Int) ≤ ST (k + 1) ∧ ST (k + 1) ≤ ((k + 1 : Nat) : Int)) := by
          have := hbd.out
          unfold Hid
          rw [HS.out]
          omega
        clear hr1 HB2 hbd
        go_wp2_with fail
        refine (wpIn_wide (n := 4)).1 ?_
        refine wpIn_region_held (fun W' => Below wr.heap.size wr W') 30 hmo ?_
        refine wpHeldIn_take (i := 0) (v := ?_) (plain_of (by kernel_rfl)) rfl (by kernel_rfl) (fun _ _ _ h => h) (yieldsSoIn_of (by kernel_rfl) ?_ (fun _ => rfl)) q0 ?_; rotate_left; focus (intro wq hw; have kq := KC.out wq hw; clear hw; go_simp; try (with_reducible rfl))
        refine wpHeldIn_take (i := 1) (v := ?_) (plain_of (by kernel_rfl)) rfl (by kernel_rfl) (fun _ _ _ h => h) (yieldsSoIn_of (by kernel_rfl) ?_ (fun _ => rfl)) q0 ?_; rotate_left; focus (intro wq hw; clear hw; go_simp; try (with_reducible rfl))
        refine wpHeldIn_take (i := 2) (v := ?_) (plain_of (by kernel_rfl)) rfl (by kernel_rfl) (fun _ _ _ h => h) (yieldsSoIn_of (by kernel_rfl) ?_ (fun _ => rfl)) q0 ?_; rotate_left; focus (intro wq hw; clear hw; go_simp; try (with_reducible rfl))
        refine wpHeldIn_take (i := 3) (v := ?_) (plain_of (by kernel_rfl)) rfl (by kernel_rfl) (fun _ _ _ h => h) (yieldsSoIn_of (by kernel_rfl) ?_ (fun _ => rfl)) q0 ?_; rotate_left; focus (intro wq hw; clear hw; go_simp; try (with_reducible rfl))
        refine wpHeldIn_take (i := 4) (v := ?_) (plain_of (by kernel_rfl)) rfl (by kernel_rfl) (fun _ _ _ h => h) (yieldsSoIn_of (by kernel_rfl) ?_ (fun _ => rfl)) q0 ?_; rotate_left; focus (intro wq hw; have kq := KC.out wq hw; clear hw; go_simp; try (with_reducible rfl))
        refine wpHeldIn_take (i := 5) (v := ?_) (plain_of (by kernel_rfl)) rfl (by kernel_rfl) (fun _ _ _ h => h) (yieldsSoIn_of (by kernel_rfl) ?_ (fun _ => rfl)) q0 ?_; rotate_left; focus (intro wq hw; clear hw; go_simp; try (with_reducible rfl))
        refine wpHeldIn_take (i := 6) (v := ?_) (plain_of (by kernel_rfl)) rfl (by kernel_rfl) (fun _ _ _ h => h) (yieldsSoIn_of (by kernel_rfl) ?_ (fun _ => rfl)) q0 ?_; rotate_left; focus (intro wq hw; clear hw; go_simp; try (with_reducible rfl))
        refine wpHeldIn_take (i := 7) (v := ?_) (plain_of (by kernel_rfl)) rfl (by kernel_rfl) (fun _ _ _ h => h) (yieldsSoIn_of (by kernel_rfl) ?_ (fun _ => rfl)) q0 ?_; rotate_left; focus (intro wq hw; clear hw; go_simp; try (with_reducible rfl))
        refine wpHeldIn_take (i := 8) (v := ?_) (plain_of (by kernel_rfl)) rfl (by kernel_rfl) (fun _ _ _ h => h) (yieldsSoIn_of (by kernel_rfl) ?_ (fun _ => rfl)) q0 ?_; rotate_left; focus (intro wq hw; clear hw; go_simp; try (with_reducible rfl))
        refine wpHeldIn_take (i := 9) (v := ?_) (plain_of (by kernel_rfl)) rfl (by kernel_rfl) (fun _ _ _ h => h) (yieldsSoIn_of (by kernel_rfl) ?_ (fun _ => rfl)) q0 ?_; rotate_left; focus (intro wq hw; clear hw; go_simp; try (with_reducible rfl))
        refine wpHeldIn_take (i := 10) (v := ?_) (plain_of (by kernel_rfl)) rfl (by kernel_rfl) (fun _ _ _ h => h) (yieldsSoIn_of (by kernel_rfl) ?_ (fun _ => rfl)) q0 ?_; rotate_left; focus (intro wq hw; clear hw; go_simp; try (with_reducible rfl))
        refine wpHeldIn_take (i := 11) (v := ?_) (plain_of (by kernel_rfl)) rfl (by kernel_rfl) (fun _ _ _ h => h) (yieldsSoIn_of (by kernel_rfl) ?_ (fun _ => rfl)) q0 ?_; rotate_left; focus (intro wq hw; clear hw; go_simp; try (with_reducible rfl))
        refine wpHeldIn_take (i := 12) (v := ?_) (plain_of (by kernel_rfl)) rfl (by kernel_rfl) (fun _ _ _ h => h) (yieldsSoIn_of (by kernel_rfl) ?_ (fun _ => rfl)) q0 ?_; rotate_left; focus (intro wq hw; have kq := KC.out wq hw; clear hw; go_simp; try (with_reducible rfl))
        refine wpHeldIn_one (i := 13) (by kernel_rfl) (by kernel_rfl) rfl (by kernel_rfl) (fun K2 hK2 => ?_)
        go_simp
        refine ⟨trivial, (callsIn_wide.2 (HST.out _)).mono ?_⟩
        rintro e w5 ⟨rfl, hb5⟩
        have q1 := q0.trans (hb5.mono q0.size)
        refine hK2 _ _ q1 ?_
        refine wpHeldIn_take (i := 14) (v := ?_) (plain_of (by kernel_rfl)) rfl (by kernel_rfl) (fun _ _ _ h => h) (yieldsSoIn_of (by kernel_rfl) ?_ (fun _ => rfl)) q1 ?_; rotate_left; focus (intro wq hw; clear hw; go_simp; try (with_reducible rfl))
        refine wpHeldIn_take (i := 15) (v := ?_) (plain_of (by kernel_rfl)) rfl (by kernel_rfl) (fun _ _ _ h => h) (yieldsSoIn_of (by kernel_rfl) ?_ (fun _ => rfl)) q1 ?_; rotate_left; focus (intro wq hw; clear hw; go_simp; try (with_reducible rfl))
        refine wpHeldIn_take (i := 16) (v := ?_) (plain_of (by kernel_rfl)) rfl (by kernel_rfl) (fun _ _ _ h => h) (yieldsSoIn_of (by kernel_rfl) ?_ (fun _ => rfl)) q1 ?_; rotate_left; focus (intro wq hw; clear hw; go_simp; try (with_reducible rfl))
        refine wpHeldIn_take (i := 17) (v := ?_) (plain_of (by kernel_rfl)) rfl (by kernel_rfl) (fun _ _ _ h => h) (yieldsSoIn_of (by kernel_rfl) ?_ (fun _ => rfl)) q1 ?_; rotate_left; focus (intro wq hw; clear hw; go_simp; try (with_reducible rfl))
        refine wpHeldIn_take (i := 18) (v := ?_) (plain_of (by kernel_rfl)) rfl (by kernel_rfl) (fun _ _ _ h => h) (yieldsSoIn_of (by kernel_rfl) ?_ (fun _ => rfl)) q1 ?_; rotate_left; focus (intro wq hw; clear hw; go_simp; try (with_reducible rfl))
        refine wpHeldIn_done (by kernel_rfl) ?_ _
        go_simp
        have bS5 := bS.below q1
        have hB5 := hB.trans (q1.mono hB.size)
        clear KC q0 q1 hb5
        go_wp2_with fail
        obtain ⟨g', hg'⟩ : ∃ g', gk = g' + 1 := ⟨gk - 1, by have := hk.out; omega⟩
        go_roundg g'
        case measure => omega
        case rel => exact ⟨k + 1, by have := hk.out; simp only [Hid]; omega, by omega, by go_num, by rw [HS.out], HBD, hB5, bS5⟩
    · have ek : k = es.length := by omega
      have s0 := bS.cell 0 rfl
      have lS := bS.lt
      obtain ⟨M, hM⟩ : ∃ M : Int, M = (ST k).tdiv (ps.length : Int) := ⟨_, rfl⟩
      have HR : Hid (R = M) := by unfold Hid; rw [HV.out, ← ek, hM]
      have hMb : -(1000000 : Int) ≤ M ∧ M ≤ 1000000 := by
        have h2 := Int.natAbs_tdiv_le_natAbs (ST k) (ps.length : Int)
        have := hbd.out
        rw [← hM] at h2
        omega
      have hw1 : IntKind.i64.wrap M = M := IntWalk.i64_in _ (by omega)
      have hp1 : ¬ (ps.length : Int) = 0 := by omega
      have hp2 : ¬ ps.length = 0 := by omega
      have hp3 : ¬ ps = [] := by intro e; subst e; simp at hp2
      have hM' := hM.symm
      clear ek hbd hM
      go_wp2_with fail
      go_returns
      exact ⟨by rw [HR.out]; rfl, hB⟩
set_option maxRecDepth 100000 in
set_option maxHeartbeats 8000000 in
theorem check5_any (t : Wl.Trk) (ws : List Wl.Pt) (es : List Int) (A Aw Ae : Option Addr) (c cw ce : Nat) (hl : t.ps.length ≤ 1000000000) (hle : es.length ≤ 1000000000) (hlw : ws.length ≤ 1000000000) (w : World) (hP : Prs w w.heap.size A t.ps) (hQ : Prs w w.heap.size Aw ws) (hE : 0 < es.length → Ints w w.heap.size (.slice Ae es.length ce) es) :
    Calls Try.prog 59 #[.agg (trV t A c), .slice Aw ws.length cw, .slice Ae es.length ce] w (ErrPost (Wl.movE t ws es) w) := by
  have HC : Hid (∀ W, Below w.heap.size w W → Calls Try.prog 15 #[.agg (trV t A c), .slice Aw ws.length cw] W (ErrPost (Wl.chkV t ws) W)) := fun W hW => Check5_any t ws A Aw c cw hl hlw W (prs_keep hP hW) (prs_keep hQ hW)
  have HA : Hid (Wl.chkV t ws = 0 → ∀ W, Below w.heap.size w W → Calls Try.prog 36 #[.agg (trV t A c), .slice Aw ws.length cw, .slice Ae es.length ce] W fun e w' => e = .returned (.bool (Wl.elbV t ws es)) ∧ Below W.heap.size W w') := fun h W hW =>
    AreElbows5_all9 t ws es A Aw Ae c cw ce (Wl.chk_yes.1 h).1 (Wl.chk_yes.1 h).2 hle hlw W (prs_keep hP hW) (prs_keep hQ hW) (fun h0 => ((hE h0).keep hW).more hW.size)
  have HM : Hid (Wl.movE t ws es = if Wl.chkV t ws = 0 then (if Wl.elbV t ws es then 0 else 1) else Wl.chkV t ws) := rfl
  clear hP hQ hE hl hle hlw
  unfold ErrPost at *
  generalize Wl.movE t ws es = ME at *
  generalize Wl.chkV t ws = CE at *
  generalize Wl.elbV t ws es = EB at *
  obtain ⟨ps, cl, lo, hi⟩ := t
  unfold trV at *
  dsimp only at *
  by_cases hce : CE = 0
  · subst hce
    have HA' := Lib.hid (HA.out rfl)
    cases EB
    · have HR : Hid (ME = 1) := by unfold Hid; rw [HM.out]; rfl
      clear HM HA
      go_enter Try.func59, Try.ntmps59
      go_wp2_with fail
      have bS1 := BoxS.new w 26 #[.slice A ps.length c, .int .i64 cl, .int .i64 lo, .int .i64 hi]
      have hB1 : Below w.heap.size w (w.alloc (.cells #[.slice A ps.length c, .int .i64 cl, .int .i64 lo, .int .i64 hi] 26)) := by (repeat' (first | (with_reducible exact Below.refl _ _) | (with_reducible assumption) | (with_reducible refine Below.alloc ?_ ?_ _) | (with_reducible refine Below.drew ?_) | (with_reducible refine Below.setCell ?_ ?_ _) | go_size | (exact (by simp)) | omega))
      generalize World.alloc w _ = w1 at *
      obtain ⟨s0, s1, s2, s3⟩ := boxS4 bS1
      have lS := bS1.lt
      try go_wp2_with fail
      refine (HC.out _ hB1).mono ?_
      rintro e w2 ⟨rfl, hb2⟩
      have hB2 := hB1.trans (hb2.mono hB1.size)
      have bS2 := bS1.below hb2
      clear s0 s1 s2 s3 lS bS1
      obtain ⟨s0, s1, s2, s3⟩ := boxS4 bS2
      have lS := bS2.lt
      go_wp2_with fail
      refine (HA'.out _ hB2).mono ?_
      rintro e w3 ⟨rfl, hb3⟩
      have hB3 := hB2.trans (hb3.mono hB2.size)
      clear s0 s1 s2 s3 lS
      go_wp2_with fail
      go_returns
      exact ⟨by rw [HR.out]; rfl, hB3⟩
    · have HR : Hid (ME = 0) := by unfold Hid; rw [HM.out]; rfl
      clear HM HA
      go_enter Try.func59, Try.ntmps59
      go_wp2_with fail
      have bS1 := BoxS.new w 26 #[.slice A ps.length c, .int .i64 cl, .int .i64 lo, .int .i64 hi]
      have hB1 : Below w.heap.size w (w.alloc (.cells #[.slice A ps.length c, .int .i64 cl, .int .i64 lo, .int .i64 hi] 26)) := by (repeat' (first | (with_reducible exact Below.refl _ _) | (with_reducible assumption) | (with_reducible refine Below.alloc ?_ ?_ _) | (with_reducible refine Below.drew ?_) | (with_reducible refine Below.setCell ?_ ?_ _) | go_size | (exact (by simp)) | omega))
      generalize World.alloc w _ = w1 at *
      obtain ⟨s0, s1, s2, s3⟩ := boxS4 bS1
      have lS := bS1.lt
      try go_wp2_with fail
      refine (HC.out _ hB1).mono ?_
      rintro e w2 ⟨rfl, hb2⟩
      have hB2 := hB1.trans (hb2.mono hB1.size)
      have bS2 := bS1.below hb2
      clear s0 s1 s2 s3 lS bS1
      obtain ⟨s0, s1, s2, s3⟩ := boxS4 bS2
      have lS := bS2.lt
      go_wp2_with fail
      refine (HA'.out _ hB2).mono ?_
      rintro e w3 ⟨rfl, hb3⟩
      have hB3 := hB2.trans (hb3.mono hB2.size)
      clear s0 s1 s2 s3 lS
      go_wp2_with fail
      go_returns
      exact ⟨by rw [HR.out]; rfl, hB3⟩
  · have HR : Hid (ME = CE) := by unfold Hid; rw [HM.out, if_neg hce]
    have hcb : (CE != 0) = true := by simpa using hce
    clear HM HA hce
    go_enter Try.func59, Try.ntmps59
    go_wp2_with fail
    have bS1 := BoxS.new w 26 #[.slice A ps.length c, .int .i64 cl, .int .i64 lo, .int .i64 hi]
    have hB1 : Below w.heap.size w (w.alloc (.cells #[.slice A ps.length c, .int .i64 cl, .int .i64 lo, .int .i64 hi] 26)) := by (repeat' (first | (with_reducible exact Below.refl _ _) | (with_reducible assumption) | (with_reducible refine Below.alloc ?_ ?_ _) | (with_reducible refine Below.drew ?_) | (with_reducible refine Below.setCell ?_ ?_ _) | go_size | (exact (by simp)) | omega))
    generalize World.alloc w _ = w1 at *
    obtain ⟨s0, s1, s2, s3⟩ := boxS4 bS1
    have lS := bS1.lt
    try go_wp2_with fail
    refine (HC.out _ hB1).mono ?_
    rintro e w2 ⟨rfl, hb2⟩
    have hB2 := hB1.trans (hb2.mono hB1.size)
    have bS2 := bS1.below hb2
    clear s0 s1 s2 s3 lS bS1
    go_wp2_with fail
    go_returns
    exact ⟨by rw [HR.out]; rfl, hB2⟩
set_option maxRecDepth 100000 in
set_option maxHeartbeats 8000000 in
theorem Sweep5_any (t : Wl.Trk) (ws : List Wl.Pt) (es : List Int) (A Aw Ae : Option Addr) (c cw ce : Nat) (hl : t.ps.length ≤ 1000000000) (hle : es.length ≤ 1000000000) (hlw : ws.length ≤ 1000000000) (w : World) (hP : Prs w w.heap.size A t.ps) (hQ : Prs w w.heap.size Aw ws) (hE : 0 < es.length → Ints w w.heap.size (.slice Ae es.length ce) es) :
    Calls Try.prog 25 #[.agg (trV t A c), .slice Aw ws.length cw, .slice Ae es.length ce] w (TwoPost (if Wl.movE t ws es = 0 then Wl.sweepV t ws es else 0) (Wl.movE t ws es) w) := by
  have HC : Hid (∀ W, Below w.heap.size w W → Calls Try.prog 59 #[.agg (trV t A c), .slice Aw ws.length cw, .slice Ae es.length ce] W (ErrPost (Wl.movE t ws es) W)) := fun W hW => check5_any t ws es A Aw Ae c cw ce hl hle hlw W (prs_keep hP hW) (prs_keep hQ hW) (fun h0 => ((hE h0).keep hW).more hW.size)
  have HS : Hid (Wl.movE t ws es = 0 → ∀ W, Below w.heap.size w W → Calls Try.prog 60 #[.agg (trV t A c), .slice Aw ws.length cw, .slice Ae es.length ce] W fun e w' => e = .returned (.int .i64 (Wl.sweepV t ws es)) ∧ Below W.heap.size W w') := fun h W hW => by
    obtain ⟨⟨h1, h2⟩, h3⟩ := Wl.movE_yes h
    obtain ⟨e1, e2, e3⟩ := Wl.elbV_iff.1 h3
    have h8 := Wl.pts_all h2
    have hp0 := Wl.pts_pos h2
    have htp := Wl.trk_parts h1
    have hin : ∀ k, k < es.length → 0 ≤ Wl.esAt es k ∧ Wl.esAt es k < t.ps.length := fun k hk => (Wl.mem_reachL.1 (Wl.fitB_mem.1 (e2 k hk))).1
    have hEE := ((hE (by omega)).keep hW).more hW.size
    exact SweepOf5_any t ws es A Aw Ae c cw ce (Wl.trk_sm h1) (fun k hk => Wl.pts_sm h2 hk) hin hl e1 h8.2 W (prs_keep hP hW) (prs_keep hQ hW) hEE
  clear hP hQ hE hl hle hlw
  unfold ErrPost at HC
  generalize Wl.movE t ws es = ME at *
  generalize Wl.sweepV t ws es = SV at *
  obtain ⟨ps, cl, lo, hi⟩ := t
  unfold trV at *
  dsimp only at *
  by_cases hme : ME = 0
  · subst hme
    have HS' := Lib.hid (HS.out rfl)
    clear HS
    unfold TwoPost
    rw [if_pos rfl]
    go_enter Try.func25, Try.ntmps25
    go_wp2_with fail
    have bS1 := BoxS.new w 26 #[.slice A ps.length c, .int .i64 cl, .int .i64 lo, .int .i64 hi]
    have hB1 : Below w.heap.size w (w.alloc (.cells #[.slice A ps.length c, .int .i64 cl, .int .i64 lo, .int .i64 hi] 26)) := by (repeat' (first | (with_reducible exact Below.refl _ _) | (with_reducible assumption) | (with_reducible refine Below.alloc ?_ ?_ _) | (with_reducible refine Below.drew ?_) | (with_reducible refine Below.setCell ?_ ?_ _) | go_size | (exact (by simp)) | omega))
    generalize World.alloc w _ = w1 at *
    obtain ⟨s0, s1, s2, s3⟩ := boxS4 bS1
    have lS := bS1.lt
    try go_wp2_with fail
    refine (HC.out _ hB1).mono ?_
    rintro e w2 ⟨rfl, hb2⟩
    have hB2 := hB1.trans (hb2.mono hB1.size)
    have bS2 := bS1.below hb2
    clear s0 s1 s2 s3 lS bS1
    obtain ⟨s0, s1, s2, s3⟩ := boxS4 bS2
    have lS := bS2.lt
    go_wp2_with fail
    refine (HS'.out _ hB2).mono ?_
    rintro e w3 ⟨rfl, hb3⟩
    have hB3 := hB2.trans (hb3.mono hB2.size)
    clear s0 s1 s2 s3 lS
    go_wp2_with fail
    go_returns
    exact ⟨rfl, hB3⟩
  · have hcb : (ME != 0) = true := by simpa using hme
    unfold TwoPost
    rw [if_neg hme]
    clear HS hme
    go_enter Try.func25, Try.ntmps25
    go_wp2_with fail
    have bS1 := BoxS.new w 26 #[.slice A ps.length c, .int .i64 cl, .int .i64 lo, .int .i64 hi]
    have hB1 : Below w.heap.size w (w.alloc (.cells #[.slice A ps.length c, .int .i64 cl, .int .i64 lo, .int .i64 hi] 26)) := by (repeat' (first | (with_reducible exact Below.refl _ _) | (with_reducible assumption) | (with_reducible refine Below.alloc ?_ ?_ _) | (with_reducible refine Below.drew ?_) | (with_reducible refine Below.setCell ?_ ?_ _) | go_size | (exact (by simp)) | omega))
    generalize World.alloc w _ = w1 at *
    obtain ⟨s0, s1, s2, s3⟩ := boxS4 bS1
    have lS := bS1.lt
    try go_wp2_with fail
    refine (HC.out _ hB1).mono ?_
    rintro e w2 ⟨rfl, hb2⟩
    have hB2 := hB1.trans (hb2.mono hB1.size)
    have bS2 := bS1.below hb2
    clear s0 s1 s2 s3 lS bS1
    go_wp2_with fail
    go_returns
    exact ⟨rfl, hB2⟩
set_option maxRecDepth 100000 in
set_option maxHeartbeats 8000000 in
theorem Turns5_any (t : Wl.Trk) (ws : List Wl.Pt) (es : List Int) (A Aw Ae : Option Addr) (c cw ce : Nat) (hl : t.ps.length ≤ 1000000000) (hle : es.length ≤ 1000000000) (hlw : ws.length ≤ 1000000000) (w : World) (hP : Prs w w.heap.size A t.ps) (hQ : Prs w w.heap.size Aw ws) (hE : 0 < es.length → Ints w w.heap.size (.slice Ae es.length ce) es) :
    Calls Try.prog 27 #[.agg (trV t A c), .slice Aw ws.length cw, .slice Ae es.length ce] w (TwoPost (if Wl.movE t ws es = 0 then Wl.turnsV t es else 0) (Wl.movE t ws es) w) := by
  have HC : Hid (∀ W, Below w.heap.size w W → Calls Try.prog 59 #[.agg (trV t A c), .slice Aw ws.length cw, .slice Ae es.length ce] W (ErrPost (Wl.movE t ws es) W)) := fun W hW => check5_any t ws es A Aw Ae c cw ce hl hle hlw W (prs_keep hP hW) (prs_keep hQ hW) (fun h0 => ((hE h0).keep hW).more hW.size)
  have HS : Hid (Wl.movE t ws es = 0 → ∀ W, Below w.heap.size w W → Calls Try.prog 62 #[.agg (trV t A c), .slice Ae es.length ce] W fun e w' => e = .returned (.int .i64 (Wl.turnsV t es)) ∧ Below W.heap.size W w') := fun h W hW => by
    obtain ⟨⟨h1, h2⟩, h3⟩ := Wl.movE_yes h
    obtain ⟨e1, e2, e3⟩ := Wl.elbV_iff.1 h3
    have h8 := Wl.pts_all h2
    have hp0 := Wl.pts_pos h2
    have htp := Wl.trk_parts h1
    have hin : ∀ k, k < es.length → 0 ≤ Wl.esAt es k ∧ Wl.esAt es k < t.ps.length := fun k hk => (Wl.mem_reachL.1 (Wl.fitB_mem.1 (e2 k hk))).1
    have hEE := ((hE (by omega)).keep hW).more hW.size
    exact TurnsOf5_any t es A Ae c ce htp.2.1 (by omega) hin e3 hl (by omega) W hEE
  clear hP hQ hE hl hle hlw
  unfold ErrPost at HC
  generalize Wl.movE t ws es = ME at *
  generalize Wl.turnsV t es = SV at *
  obtain ⟨ps, cl, lo, hi⟩ := t
  unfold trV at *
  dsimp only at *
  by_cases hme : ME = 0
  · subst hme
    have HS' := Lib.hid (HS.out rfl)
    clear HS
    unfold TwoPost
    rw [if_pos rfl]
    go_enter Try.func27, Try.ntmps27
    go_wp2_with fail
    have bS1 := BoxS.new w 26 #[.slice A ps.length c, .int .i64 cl, .int .i64 lo, .int .i64 hi]
    have hB1 : Below w.heap.size w (w.alloc (.cells #[.slice A ps.length c, .int .i64 cl, .int .i64 lo, .int .i64 hi] 26)) := by (repeat' (first | (with_reducible exact Below.refl _ _) | (with_reducible assumption) | (with_reducible refine Below.alloc ?_ ?_ _) | (with_reducible refine Below.drew ?_) | (with_reducible refine Below.setCell ?_ ?_ _) | go_size | (exact (by simp)) | omega))
    generalize World.alloc w _ = w1 at *
    obtain ⟨s0, s1, s2, s3⟩ := boxS4 bS1
    have lS := bS1.lt
    try go_wp2_with fail
    refine (HC.out _ hB1).mono ?_
    rintro e w2 ⟨rfl, hb2⟩
    have hB2 := hB1.trans (hb2.mono hB1.size)
    have bS2 := bS1.below hb2
    clear s0 s1 s2 s3 lS bS1
    obtain ⟨s0, s1, s2, s3⟩ := boxS4 bS2
    have lS := bS2.lt
    go_wp2_with fail
    refine (HS'.out _ hB2).mono ?_
    rintro e w3 ⟨rfl, hb3⟩
    have hB3 := hB2.trans (hb3.mono hB2.size)
    clear s0 s1 s2 s3 lS
    go_wp2_with fail
    go_returns
    exact ⟨rfl, hB3⟩
  · have hcb : (ME != 0) = true := by simpa using hme
    unfold TwoPost
    rw [if_neg hme]
    clear HS hme
    go_enter Try.func27, Try.ntmps27
    go_wp2_with fail
    have bS1 := BoxS.new w 26 #[.slice A ps.length c, .int .i64 cl, .int .i64 lo, .int .i64 hi]
    have hB1 : Below w.heap.size w (w.alloc (.cells #[.slice A ps.length c, .int .i64 cl, .int .i64 lo, .int .i64 hi] 26)) := by (repeat' (first | (with_reducible exact Below.refl _ _) | (with_reducible assumption) | (with_reducible refine Below.alloc ?_ ?_ _) | (with_reducible refine Below.drew ?_) | (with_reducible refine Below.setCell ?_ ?_ _) | go_size | (exact (by simp)) | omega))
    generalize World.alloc w _ = w1 at *
    obtain ⟨s0, s1, s2, s3⟩ := boxS4 bS1
    have lS := bS1.lt
    try go_wp2_with fail
    refine (HC.out _ hB1).mono ?_
    rintro e w2 ⟨rfl, hb2⟩
    have hB2 := hB1.trans (hb2.mono hB1.size)
    have bS2 := bS1.below hb2
    clear s0 s1 s2 s3 lS bS1
    go_wp2_with fail
    go_returns
    exact ⟨rfl, hB2⟩
end Go.Proofs.Ytmjcdggmofohcaa
