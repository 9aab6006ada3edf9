/- Walks: Reach of package walks. -/
import Derived.Test.YtmjcdggmofohcaaWlS
namespace Go.Proofs.Ytmjcdggmofohcaa
open Go.RowKit
set_option maxRecDepth 100000 in
set_option maxHeartbeats 8000000 in
theorem ReachP_any (t : Wl.Trk) (A : Option Addr) (c : Nat) (a : Wl.Pt) (hl : t.ps.length ≤ 1000000000) (w : World) (hP : Prs w w.heap.size A t.ps) :
    Calls Try.prog 18 #[.agg (trV t A c), .agg #[.int .i64 a.1, .int .i64 a.2]] w (IntsEPost (Wl.reachRL t a) (Wl.reachRE t a) w) := by
  have HT : Hid (∀ W, Below w.heap.size w W → Calls Try.prog 49 #[.agg (trV t A c)] W fun e w' => e = .returned (.bool (Wl.trkB t)) ∧ Below W.heap.size W w') := fun W hW => validTrackW_any t A c hl W (prs_keep hP hW)
  have HV : Hid (∀ W, Calls Try.prog 54 #[.agg #[.int .i64 a.1, .int .i64 a.2]] W fun e w' => e = .returned (.bool (Geo.ptB a)) ∧ Below W.heap.size W w') := fun W => validPointW_any a.1 a.2 W
  have HR : Hid (Wl.trkB t = true → Geo.ptB a = true → ∀ W, Below w.heap.size w W → Calls Try.prog 55 #[.agg (mcV t A c none 0 0), .agg #[.int .i64 a.1, .int .i64 a.2]] W (IntsPost (Wl.reachL t a) W)) := fun h1 h2 W hW => reachP_any t A none c 0 0 a (Wl.trk_sm h1) (Wl.ptB_sm h2) (by have := (Wl.trk_parts h1).2.2; omega) W (prs_keep hP hW)
  have HL : Hid (Wl.reachRL t a = if Wl.trkB t then (if Geo.ptB a then Wl.reachL t a else []) else []) := rfl
  have HE : Hid (Wl.reachRE t a = if Wl.trkB t then (if Geo.ptB a then 0 else 1) else 50) := rfl
  generalize Wl.reachRL t a = RL at *
  generalize Wl.reachRE t a = RE at *
  generalize Wl.reachL t a = RR at *
  generalize Wl.trkB t = b1 at *
  generalize Geo.ptB a = b2 at *
  clear hP hl
  obtain ⟨ps, cl, lo, hi⟩ := t
  obtain ⟨a1, a2⟩ := a
  unfold trV mcV at *
  dsimp only at *
  cases b1 with
  | false =>
    have HL2 : Hid (RL = []) := HL.out
    have HE2 : Hid (RE = 50) := HE.out
    clear HL HE HR
    subst HL2
    subst HE2
    go_enter Try.func18, Try.ntmps18
    go_wp2_with fail
    have hB1 : Below w.heap.size w ((w.alloc (.cells #[.slice A ps.length c, .int .i64 cl, .int .i64 lo, .int .i64 hi] 26)).alloc (.cells #[.int .i64 a1, .int .i64 a2] 28)) := by (repeat' (first | (with_reducible exact Below.refl _ _) | (with_reducible assumption) | (with_reducible refine Below.alloc ?_ ?_ _) | (with_reducible refine Below.drew ?_) | (with_reducible refine Below.setCell ?_ ?_ _) | go_size | (exact (by simp)) | omega))
    generalize World.alloc (World.alloc w _) _ = w1 at *
    refine (HT.out _ hB1).mono ?_
    rintro e w2 ⟨rfl, hb2⟩
    have hB2 := hB1.trans (hb2.mono hB1.size)
    go_wp2_with fail
    go_returns
    exact ⟨_, rfl, .inl ⟨rfl, rfl⟩, hB2⟩
  | true =>
    cases b2 with
    | false =>
      have HL2 : Hid (RL = []) := HL.out
      have HE2 : Hid (RE = 1) := HE.out
      clear HL HE HR
      subst HL2
      subst HE2
      go_enter Try.func18, Try.ntmps18
      go_wp2_with fail
      have bP := BoxS.new (w.alloc (.cells #[.slice A ps.length c, .int .i64 cl, .int .i64 lo, .int .i64 hi] 26)) 28 #[.int .i64 a1, .int .i64 a2]
      rw [World.size_alloc] at bP
      have hB1 : Below w.heap.size w ((w.alloc (.cells #[.slice A ps.length c, .int .i64 cl, .int .i64 lo, .int .i64 hi] 26)).alloc (.cells #[.int .i64 a1, .int .i64 a2] 28)) := by (repeat' (first | (with_reducible exact Below.refl _ _) | (with_reducible assumption) | (with_reducible refine Below.alloc ?_ ?_ _) | (with_reducible refine Below.drew ?_) | (with_reducible refine Below.setCell ?_ ?_ _) | go_size | (exact (by simp)) | omega))
      generalize World.alloc (World.alloc w _) _ = w1 at *
      refine (HT.out _ hB1).mono ?_
      rintro e w2 ⟨rfl, hb2⟩
      have hB2 := hB1.trans (hb2.mono hB1.size)
      have bP2 := bP.below hb2
      have p0 := bP2.cell 0 rfl
      have p1 := bP2.cell 1 rfl
      have lP := bP2.lt
      go_wp2_with fail
      refine (HV.out _).mono ?_
      rintro e w3 ⟨rfl, hb3⟩
      have hB3 := hB2.trans (hb3.mono hB2.size)
      go_wp2_with fail
      go_returns
      exact ⟨_, rfl, .inl ⟨rfl, rfl⟩, hB3⟩
    | true =>
      have HL2 : Hid (RL = RR) := HL.out
      have HE2 : Hid (RE = 0) := HE.out
      have HR2 := Lib.hid (HR.out rfl rfl)
      clear HL HE HR
      subst HL2
      subst HE2
      go_enter Try.func18, Try.ntmps18
      go_wp2_with fail
      have bT := (BoxS.new w 26 #[.slice A ps.length c, .int .i64 cl, .int .i64 lo, .int .i64 hi]).alloc (.cells #[.int .i64 a1, .int .i64 a2] 28)
      have bP := BoxS.new (w.alloc (.cells #[.slice A ps.length c, .int .i64 cl, .int .i64 lo, .int .i64 hi] 26)) 28 #[.int .i64 a1, .int .i64 a2]
      rw [World.size_alloc] at bP
      have hB1 : Below w.heap.size w ((w.alloc (.cells #[.slice A ps.length c, .int .i64 cl, .int .i64 lo, .int .i64 hi] 26)).alloc (.cells #[.int .i64 a1, .int .i64 a2] 28)) := by (repeat' (first | (with_reducible exact Below.refl _ _) | (with_reducible assumption) | (with_reducible refine Below.alloc ?_ ?_ _) | (with_reducible refine Below.drew ?_) | (with_reducible refine Below.setCell ?_ ?_ _) | go_size | (exact (by simp)) | omega))
      generalize World.alloc (World.alloc w _) _ = w1 at *
      refine (HT.out _ hB1).mono ?_
      rintro e w2 ⟨rfl, hb2⟩
      have hB2 := hB1.trans (hb2.mono hB1.size)
      have bP2 := bP.below hb2
      have bT2 := bT.below hb2
      have p0 := bP2.cell 0 rfl
      have p1 := bP2.cell 1 rfl
      have lP := bP2.lt
      go_wp2_with fail
      refine (HV.out _).mono ?_
      rintro e w3 ⟨rfl, hb3⟩
      have hB3 := hB2.trans (hb3.mono hB2.size)
      clear p0 p1 lP
      have bP3 := bP2.below hb3
      have bT3 := bT2.below hb3
      have p0 := bP3.cell 0 rfl
      have p1 := bP3.cell 1 rfl
      have lP := bP3.lt
      obtain ⟨s0, s1, s2, s3⟩ := boxS4 bT3
      have lT := bT3.lt
      go_wp2_with fail
      refine (HR2.out _ hB3).mono ?_
      rintro e w4 ⟨v, rfl, hI, hb4⟩
      have hB4 := hB3.trans (hb4.mono hB3.size)
      go_wp2_with fail
      go_returns
      exact ⟨_, rfl, hI, hB4⟩
end Go.Proofs.Ytmjcdggmofohcaa
