/- Walks: what the reference says of areas, places and points that are stuck. -/
import Derived.Test.YtmjcdggmofohcaaMovC
import Derived.Test.YtmjcdggmofohcaaWlSr
namespace Go.Proofs.Ytmjcdggmofohcaa
open Go.RowKit
set_option maxRecDepth 100000 in
set_option maxHeartbeats 8000000 in
theorem reach5_any (t : Wl.Trk) (A : Option Addr) (c : Nat) (a : Wl.Pt) (hs : ∀ k, k < t.ps.length → Geo.sm (Wl.ptAt t.ps k)) (ha : Geo.sm a) (hl : t.ps.length ≤ 1000) (w : World) (hP : Prs w w.heap.size A t.ps) :
    Calls Try.prog 56 #[.agg (trV t A c), .agg #[.int .i64 a.1, .int .i64 a.2]] w (OwnIPost (Wl.reachL t a) w) := by
  have HRE : Hid (∀ (p : Nat), p < t.ps.length → ∀ W, Below w.heap.size w W → Calls Try.prog 71 #[.agg (trV t A c), .int .i64 (p : Nat), .agg #[.int .i64 a.1, .int .i64 a.2]] W fun e w' => e = .returned (.bool (Wl.reachB t p a)) ∧ Below W.heap.size W w') := fun p hp W hW => Reaches5_any t A c p a hp (hs p hp) ha W (prs_keep hP hW) (by omega)
  have H0 : Hid (Wl.reTo t a 0 = []) := rfl
  have HS0 : Hid (∀ k : Nat, Wl.reTo t a (k + 1) = if Wl.reachB t (k : Int) a then Wl.reTo t a k ++ [(k : Int)] else Wl.reTo t a k) := fun _ => rfl
  have HE : Hid (Wl.reachL t a = Wl.reTo t a t.ps.length) := (Wl.reTo_eq t a _).symm
  have HL : Hid (∀ k, (Wl.reTo t a k).length ≤ k) := Wl.reTo_len t a
  generalize Wl.reTo t a = RT at *
  generalize Wl.reachL t a = RL at *
  obtain ⟨ps, cl, lo, hi⟩ := t
  obtain ⟨a1, a2⟩ := a
  unfold trV at *
  dsimp only at *
  generalize hrb : (fun p : Int => Wl.reachB ⟨ps, cl, lo, hi⟩ p (a1, a2)) = RB at *
  have HRB : ∀ p : Int, Wl.reachB ⟨ps, cl, lo, hi⟩ p (a1, a2) = RB p := fun p => by rw [← hrb]
  simp only [HRB] at HRE HS0
  clear hP hs ha hrb HRB
  go_enter Try.func56, Try.ntmps56
  go_wp2_with fail
  have bM := (BoxS.new w 26 #[.slice A ps.length c, .int .i64 cl, .int .i64 lo, .int .i64 hi]).alloc (.cells #[.int .i64 a1, .int .i64 a2] 28)
  have bP := BoxS.new (w.alloc (.cells #[.slice A ps.length c, .int .i64 cl, .int .i64 lo, .int .i64 hi] 26)) 28 #[.int .i64 a1, .int .i64 a2]
  rw [World.size_alloc] at bP
  have hBb : Below w.heap.size w ((w.alloc (.cells #[.slice A ps.length c, .int .i64 cl, .int .i64 lo, .int .i64 hi] 26)).alloc (.cells #[.int .i64 a1, .int .i64 a2] 28)) := by (repeat' (first | (with_reducible exact Below.refl _ _) | (with_reducible assumption) | (with_reducible refine Below.alloc ?_ ?_ _) | (with_reducible refine Below.drew ?_) | (with_reducible refine Below.setCell ?_ ?_ _) | go_size | (exact (by simp)) | omega))
  generalize World.alloc (World.alloc w _) _ = wb at *
  try go_wp2_with fail
  go_loopg [5, 6] ps.length (fun g x5 x6 wx => ∃ k : Nat, Hid (k + g = ps.length) ∧ (k : Int) ≤ ps.length ∧ x6 = .int .i64 (k : Int) ∧ Below wb.heap.size wb wx ∧ wx.ownsRow wb.heap.size 3 1 x5 (RT k).length ((RT k).map (Value.int .i64)))
  case atStart => exact ⟨0, by simp [Hid], by omega, rfl, Below.refl _ _, by rw [H0.out]; exact owni_nil _ _⟩
  case round =>
    obtain ⟨k, hk, hk1, rfl, hbb, hown⟩ := hrel
    have hk0 := Int.natCast_nonneg k
    have bM1 := bM.below hbb
    have bP1 := bP.below hbb
    by_cases hlt : (k : Int) < ps.length
    · have hkn : k < ps.length := by omega
      have HS := Lib.hid (HS0.out k)
      have hln := HL.out k
      have HO := Lib.hid hown
      have HR1 := Lib.hid (fun W (hW : Below wr.heap.size wr W) => HRE.out k hkn W (hBb.trans (hbb.mono hBb.size |>.trans (hW.mono (Nat.le_trans hBb.size hbb.size)))))
      have hw1 : IntKind.i64.wrap ((k : Int) + 1) = (k : Int) + 1 := IntWalk.i64_in _ (by omega)
      have hsz := hbb.size
      clear hown HS0
      generalize RT k = L at *
      have s0 := bM1.cell 0 rfl
      have s1 := bM1.cell 1 rfl
      have s2 := bM1.cell 2 rfl
      have s3 := bM1.cell 3 rfl
      have p0 := bP1.cell 0 rfl
      have p1 := bP1.cell 1 rfl
      have lM := bM1.lt
      have lP := bP1.lt
      cases hb : RB k with
      | true =>
        rw [hb] at HR1
        have HS2 : Hid (RT (k + 1) = L ++ [(k : Int)]) := by unfold Hid; rw [HS.out, if_pos hb]
        clear hb
        go_wp2_with fail
        refine (HR1.out _ (Below.refl _ _)).mono ?_
        rintro e w2 ⟨rfl, hb2⟩
        have HO2 := Lib.hid (owni_below HO.out hb2)
        have hb2' := hbb.trans (hb2.mono hbb.size)
        clear s0 s1 s2 s3 p0 p1 lM lP HO
        go_wp2_with (at_builtin; refine wpList_pushi rfl (.tmp 18) (.tmp 20) rfl (k : Int) wb.heap.size _ _ _ rfl rfl HO2.out (by have := hb2'.size; omega) (by omega) ?_; intro v' w5 hown5 hb5; have HO5 := Lib.hid hown5; clear hown5)
        obtain ⟨g', hg'⟩ : ∃ g', gk = g' + 1 := ⟨gk - 1, by have := hk.out; omega⟩
        go_roundg g'
        case measure => omega
        case rel =>
          refine ⟨k + 1, by have := hk.out; simp only [Hid]; omega, by omega, by go_num, hb2'.trans hb5, ?_⟩
          rw [HS2.out, List.length_append, List.map_append]
          exact HO5.out
      | false =>
        rw [hb] at HR1
        have HS2 : Hid (RT (k + 1) = L) := by unfold Hid; rw [HS.out, hb]; rfl
        clear hb
        go_wp2_with fail
        refine (HR1.out _ (Below.refl _ _)).mono ?_
        rintro e w2 ⟨rfl, hb2⟩
        have HO2 := Lib.hid (owni_below HO.out hb2)
        have hb2' := hbb.trans (hb2.mono hbb.size)
        clear s0 s1 s2 s3 p0 p1 lM lP HO
        go_wp2_with fail
        obtain ⟨g', hg'⟩ : ∃ g', gk = g' + 1 := ⟨gk - 1, by have := hk.out; omega⟩
        go_roundg g'
        case measure => omega
        case rel =>
          refine ⟨k + 1, by have := hk.out; simp only [Hid]; omega, by omega, by go_num, hb2', ?_⟩
          rw [HS2.out]
          exact HO2.out
    · have s0 := bM1.cell 0 rfl
      have lM := bM1.lt
      have ek : k = ps.length := by omega
      rw [ek, ← HE.out] at hown
      have hI := Lib.hid (hown.mono hBb.size)
      have hBr := hBb.trans (hbb.mono hBb.size)
      clear hown ek
      go_wp2_with fail
      go_returns
      exact ⟨_, rfl, hI, hBr⟩
set_option maxRecDepth 100000 in
set_option maxHeartbeats 4000000 in
theorem samePoints5_yes (A A2 : Option Addr) (c c2 : Nat) (ps : List (Int × Int)) (hl : ps.length ≤ 1000000) (w : World) (hP : Prs w w.heap.size A ps) (hP2 : Prs w w.heap.size A2 ps) :
    Calls Try.prog 23 #[.slice A ps.length c, .slice A2 ps.length c2] w fun e w' => e = .returned (.bool true) ∧ Below w.heap.size w w' := by
  have H1 := Lib.hid hP
  have H2 := Lib.hid hP2
  have hmo : Try.prog.follows .mixedOrders = true := by kernel_rfl
  clear hP hP2
  go_enter Try.func23, Try.ntmps23
  go_wp2_with fail
  go_loopw [5] (fun x wr => ∃ k : Nat, (k : Int) ≤ ps.length ∧ x = .int .i64 k ∧ Below w.heap.size w wr) (fun x _ => (ps.length - intOf x).toNat)
  case atStart => exact ⟨0, by omega, rfl, Below.refl _ _⟩
  case round =>
    obtain ⟨k, hk, rfl, hB⟩ := hrel
    have hk0 := Int.natCast_nonneg k
    by_cases hlt : (k : Int) < ps.length
    · have hkl : k < ps.length := by omega
      have hg : ps[k]? = some ps[k] := List.getElem?_eq_getElem hkl
      obtain ⟨b, off, rfl, hb, hc⟩ := H1.out (by omega)
      obtain ⟨b2, off2, rfl, hb2, hc2⟩ := H2.out (by omega)
      have d0 := (hB.cell (p := ⟨b, off + k * 2, none⟩) hb).trans (hc k _ hg).1
      have d1 := (hB.cell (p := ⟨b, off + k * 2 + 1, none⟩) hb).trans (hc k _ hg).2
      have d2 := (hB.cell (p := ⟨b2, off2 + k * 2, none⟩) hb2).trans (hc2 k _ hg).1
      have d3 := (hB.cell (p := ⟨b2, off2 + k * 2 + 1, none⟩) hb2).trans (hc2 k _ hg).2
      clear hc hc2 hg H1 H2
      generalize ps[k] = p at *
      obtain ⟨x, y⟩ := p
      dsimp only at d0 d1 d2 d3
      have hw3 : IntKind.i64.wrap ((k : Int) + 1) = (k : Int) + 1 := IntWalk.i64_in _ (by omega)
      have e1 : decide ((k : Int) < 0) = false := decide_eq_false (by omega)
      have e2 : decide ((ps.length : Int) ≤ (k : Int)) = false := decide_eq_false (by omega)
      have e4 : decide (ps.length ≤ k) = false := decide_eq_false (by omega)
      go_wp2_with fail
      refine (wpIn_wide (n := 4)).1 ?_
      refine wpIn_region_held (fun W' => W' = wr.drew) 30 hmo ?_
      refine wpHeldIn_take (i := 0) (v := ?_) (plain_of (by kernel_rfl)) rfl (by kernel_rfl) (fun _ _ _ h => h) (yieldsSoIn_of (by kernel_rfl) ?_ (fun _ => rfl)) rfl ?_; rotate_left; focus (intro w hw; cases hw; go_simp; try (with_reducible rfl))
      refine wpHeldIn_take (i := 1) (v := ?_) (plain_of (by kernel_rfl)) rfl (by kernel_rfl) (fun _ _ _ h => h) (yieldsSoIn_of (by kernel_rfl) ?_ (fun _ => rfl)) rfl ?_; rotate_left; focus (intro w hw; cases hw; go_simp; try (with_reducible rfl))
      refine wpHeldIn_take (i := 2) (v := ?_) (plain_of (by kernel_rfl)) rfl (by kernel_rfl) (fun _ _ _ h => h) (yieldsSoIn_of (by kernel_rfl) ?_ (fun _ => rfl)) rfl ?_; rotate_left; focus (intro w hw; cases hw; go_simp; try (with_reducible rfl))
      refine wpHeldIn_take (i := 3) (v := ?_) (plain_of (by kernel_rfl)) rfl (by kernel_rfl) (fun _ _ _ h => h) (yieldsSoIn_of (by kernel_rfl) ?_ (fun _ => rfl)) rfl ?_; rotate_left; focus (intro w hw; cases hw; go_simp; try (with_reducible rfl))
      refine wpHeldIn_take (i := 4) (v := ?_) (plain_of (by kernel_rfl)) rfl (by kernel_rfl) (fun _ _ _ h => h) (yieldsSoIn_of (by kernel_rfl) ?_ (fun _ => rfl)) rfl ?_; rotate_left; focus (intro w hw; cases hw; go_simp; try (with_reducible rfl))
      refine wpHeldIn_take (i := 5) (v := ?_) (plain_of (by kernel_rfl)) rfl (by kernel_rfl) (fun _ _ _ h => h) (yieldsSoIn_of (by kernel_rfl) ?_ (fun _ => rfl)) rfl ?_; rotate_left; focus (intro w hw; cases hw; go_simp; try (with_reducible rfl))
      refine wpHeldIn_take (i := 6) (v := ?_) (plain_of (by kernel_rfl)) rfl (by kernel_rfl) (fun _ _ _ h => h) (yieldsSoIn_of (by kernel_rfl) ?_ (fun _ => rfl)) rfl ?_; rotate_left; focus (intro w hw; cases hw; go_simp; try (with_reducible rfl))
      refine wpHeldIn_take (i := 7) (v := ?_) (plain_of (by kernel_rfl)) rfl (by kernel_rfl) (fun _ _ _ h => h) (yieldsSoIn_of (by kernel_rfl) ?_ (fun _ => rfl)) rfl ?_; rotate_left; focus (intro w hw; cases hw; go_simp; try (with_reducible rfl))
      refine wpHeldIn_take (i := 8) (v := ?_) (plain_of (by kernel_rfl)) rfl (by kernel_rfl) (fun _ _ _ h => h) (yieldsSoIn_of (by kernel_rfl) ?_ (fun _ => rfl)) rfl ?_; rotate_left; focus (intro w hw; cases hw; go_simp; try (with_reducible rfl))
      refine wpHeldIn_done (by kernel_rfl) ?_ _
      go_simp
      have hB2 : Below w.heap.size w wr.drew := hB.drew
      go_wp2_with fail
      go_roundw
      case rel => exact ⟨k + 1, by omega, by go_num, hB2⟩
      case measure => simp [intOf]; omega
    · go_wp2_with fail
      go_returns
      exact ⟨rfl, hB⟩
namespace Wl
theorem dblTo_bd5 {ps : List Pt} (h : ∀ k, k < ps.length → Geo.sm (ptAt ps k)) (h0 : 0 < ps.length) : ∀ k : Nat, k ≤ ps.length → -(2000000 * (k : Int)) ≤ dblTo ps k ∧ dblTo ps k ≤ 2000000 * (k : Int)
  | 0, _ => by simp [dblTo]
  | k + 1, hk => by
    have ih := dblTo_bd5 h h0 k (by omega)
    have hc := cr_bd (h k (by omega)) (h ((k + 1) % ps.length) (Nat.mod_lt _ h0))
    show -(2000000 * ((k + 1 : Nat) : Int)) ≤ dblTo ps k + cr _ _ ∧ dblTo ps k + cr _ _ ≤ 2000000 * ((k + 1 : Nat) : Int)
    omega
end Wl
set_option maxRecDepth 100000 in
set_option maxHeartbeats 4000000 in
theorem Doubled5_any (A : Option Addr) (c : Nat) (ps : List Wl.Pt) (hs : ∀ k, k < ps.length → Geo.sm (Wl.ptAt ps k)) (hl : ps.length ≤ 1000) (w : World) (hP : Prs w w.heap.size A ps) :
    Calls Try.prog 53 #[.slice A ps.length c] w fun e w' => e = .returned (.int .i64 (Wl.dbl ps)) ∧ Below w.heap.size w w' := by
  have H1 := Lib.hid hP
  have hmo : Try.prog.follows .mixedOrders = true := by kernel_rfl
  have HD : Hid (Wl.dbl ps = Wl.dblTo ps ps.length) := rfl
  have HS0 : Hid (∀ k, Wl.dblTo ps (k + 1) = Wl.dblTo ps k + Wl.cr (Wl.ptAt ps k) (Wl.ptAt ps ((k + 1) % ps.length))) := fun _ => rfl
  have HB : Hid (∀ k, k ≤ ps.length → 0 < ps.length → -(2000000 * (k : Int)) ≤ Wl.dblTo ps k ∧ Wl.dblTo ps k ≤ 2000000 * (k : Int)) := fun k hk h0 => Wl.dblTo_bd5 hs h0 k hk
  have H0 : Hid (Wl.dblTo ps 0 = 0) := rfl
  have HSM := Lib.hid hs
  clear hP hs
  generalize Wl.dbl ps = DP at *
  generalize Wl.dblTo ps = DT at *
  go_enter Try.func53, Try.ntmps53
  go_wp2_with fail
  go_loopw [3, 4] (fun x y wr => ∃ k : Nat, (k : Int) ≤ ps.length ∧ y = .int .i64 k ∧ x = .int .i64 (DT k) ∧ Below w.heap.size w wr) (fun _ y _ => (ps.length - intOf y).toNat)
  case atStart => exact ⟨0, by omega, rfl, by rw [H0.out], Below.refl _ _⟩
  case round =>
    obtain ⟨k, hk, rfl, rfl, hB⟩ := hrel
    have hk0 := Int.natCast_nonneg k
    by_cases hlt : (k : Int) < ps.length
    · have hkl : k < ps.length := by omega
      have h0l : 0 < ps.length := by omega
      have hnl : (k + 1) % ps.length < ps.length := Nat.mod_lt _ h0l
      have hg1 : ps[k]? = some (Wl.ptAt ps k) := by unfold Wl.ptAt; rw [List.getElem?_eq_getElem hkl]; rfl
      have hg2 : ps[(k + 1) % ps.length]? = some (Wl.ptAt ps ((k + 1) % ps.length)) := by unfold Wl.ptAt; rw [List.getElem?_eq_getElem hnl]; rfl
      have HST := Lib.hid (HS0.out k)
      have hmb := HB.out k (by omega) h0l
      have s1 := HSM.out k hkl
      have s2 := HSM.out _ hnl
      obtain ⟨b, off, rfl, hb, hc⟩ := H1.out h0l
      have d0 := (hB.cell (p := ⟨b, off + k * 2, none⟩) hb).trans (hc k _ hg1).1
      have d1 := (hB.cell (p := ⟨b, off + k * 2 + 1, none⟩) hb).trans (hc k _ hg1).2
      have d2 := (hB.cell (p := ⟨b, off + (k + 1) % ps.length * 2, none⟩) hb).trans (hc _ _ hg2).1
      have d3 := (hB.cell (p := ⟨b, off + (k + 1) % ps.length * 2 + 1, none⟩) hb).trans (hc _ _ hg2).2
      have hr1 : ((k : Int) + 1) % (ps.length : Int) = (((k + 1) % ps.length : Nat) : Int) := by rw [Int.natCast_emod]; rfl
      have hr2 : ((k : Int) + 1).tmod (ps.length : Int) = (((k + 1) % ps.length : Nat) : Int) := by rw [Int.tmod_eq_emod_of_nonneg (by omega)]; exact hr1
      have hw1 : IntKind.i64.wrap ((k : Int) + 1) = (k : Int) + 1 := IntWalk.i64_in _ (by omega)
      have hne : ¬ (ps.length : Int) = 0 := by omega
      have hne2 : ¬ ps.length = 0 := by omega
      have hne3 : ¬ ps = [] := by intro e; subst e; simp at hne2
      clear hc hg1 hg2 hr1 H1 HS0 HB HSM
      generalize Wl.ptAt ps ((k + 1) % ps.length) = q at *
      generalize Wl.ptAt ps k = p at *
      generalize (k + 1) % ps.length = r at *
      have hcb := Wl.cr_bd s1 s2
      obtain ⟨x1, y1⟩ := p
      obtain ⟨x2, y2⟩ := q
      unfold Geo.sm at s1 s2
      dsimp only at *
      have m1 : -(1000 * 1000) ≤ x1 * y2 ∧ x1 * y2 ≤ 1000 * 1000 := mul_bd (by omega) (by omega) (by omega) (by omega)
      have m2 : -(1000 * 1000) ≤ y1 * x2 ∧ y1 * x2 ≤ 1000 * 1000 := mul_bd (by omega) (by omega) (by omega) (by omega)
      have hcr : Wl.cr (x1, y1) (x2, y2) = x1 * y2 - y1 * x2 := rfl
      rw [hcr] at hcb
      have HST1 : Hid (DT (k + 1) = DT k + (x1 * y2 - y1 * x2)) := by rw [← hcr]; exact HST.out
      clear HST hcr
      generalize DT k = m at *
      have v1 : IntKind.i64.wrap (x1 * y2) = x1 * y2 := IntWalk.i64_in _ (by omega)
      have v2 : IntKind.i64.wrap (y1 * x2) = y1 * x2 := IntWalk.i64_in _ (by omega)
      have v3 : IntKind.i64.wrap (x1 * y2 - y1 * x2) = x1 * y2 - y1 * x2 := IntWalk.i64_in _ (by omega)
      have v4 : IntKind.i64.wrap (m + (x1 * y2 - y1 * x2)) = m + (x1 * y2 - y1 * x2) := IntWalk.i64_in _ (by omega)
      have hw2 : IntKind.i64.wrap (r : Int) = (r : Int) := IntWalk.i64_in _ (by omega)
      have hr0 : (0 : Int) ≤ (r : Int) := Int.natCast_nonneg r
      have hrl : (r : Int) < (ps.length : Int) := by omega
      have e1 : decide ((k : Int) < 0) = false := decide_eq_false (by omega)
      have e2 : decide ((ps.length : Int) ≤ (k : Int)) = false := decide_eq_false (by omega)
      have e4 : decide (ps.length ≤ k) = false := decide_eq_false (by omega)
      have e5 : decide ((r : Int) < 0) = false := decide_eq_false (by omega)
      have e6 : decide ((ps.length : Int) ≤ (r : Int)) = false := decide_eq_false (by omega)
      have e7 : decide (ps.length ≤ r) = false := decide_eq_false (by omega)
      clear m1 m2 hcb hmb s1 s2
      go_wp2_with fail
      have hbr : b < wr.heap.size := by have := hB.size; omega
      have HH := Lib.hid (And.intro hB HST1)
      have HD2 := HD
      clear hB HST1
      go_region
      · obtain ⟨hB, HST1⟩ := HH.out
        have bp : BoxS (((wr.alloc (.cells #[.int .i64 x1, .int .i64 y1] 28)).alloc (.cells #[.int .i64 x2, .int .i64 y2] 28)).drew) wr.heap.size 28 #[.int .i64 x1, .int .i64 y1] := ((BoxS.new wr 28 #[.int .i64 x1, .int .i64 y1]).alloc (.cells #[.int .i64 x2, .int .i64 y2] 28)).drew
        have bq : BoxS (((wr.alloc (.cells #[.int .i64 x1, .int .i64 y1] 28)).alloc (.cells #[.int .i64 x2, .int .i64 y2] 28)).drew) (wr.heap.size + 1) 28 #[.int .i64 x2, .int .i64 y2] := by
          have := (BoxS.new (wr.alloc (.cells #[.int .i64 x1, .int .i64 y1] 28)) 28 #[.int .i64 x2, .int .i64 y2]).drew
          rw [World.size_alloc] at this
          exact this
        have hz := hB.size
        have hB2 : Below w.heap.size w (((wr.alloc (.cells #[.int .i64 x1, .int .i64 y1] 28)).alloc (.cells #[.int .i64 x2, .int .i64 y2] 28)).drew) := ((hB.alloc hz _).alloc (by rw [World.size_alloc]; omega) _).drew
        clear HH hB d0 d1 d2 d3 hbr hz
        generalize World.drew (World.alloc (World.alloc wr _) _) = wn at *
        have c0 := bp.cell 0 rfl
        have c1 := bp.cell 1 rfl
        have c2 := bq.cell 0 rfl
        have c3 := bq.cell 1 rfl
        have l1 := bp.lt
        have l2 := bq.lt
        go_wp2_with fail
        go_roundw
        case rel => exact ⟨k + 1, by omega, by go_num, by rw [HST1.out], hB2⟩
        case measure => simp [intOf]; omega
      · obtain ⟨hB, HST1⟩ := HH.out
        have bq : BoxS (((wr.alloc (.cells #[.int .i64 x2, .int .i64 y2] 28)).alloc (.cells #[.int .i64 x1, .int .i64 y1] 28)).drew) wr.heap.size 28 #[.int .i64 x2, .int .i64 y2] := ((BoxS.new wr 28 #[.int .i64 x2, .int .i64 y2]).alloc (.cells #[.int .i64 x1, .int .i64 y1] 28)).drew
        have bp : BoxS (((wr.alloc (.cells #[.int .i64 x2, .int .i64 y2] 28)).alloc (.cells #[.int .i64 x1, .int .i64 y1] 28)).drew) (wr.heap.size + 1) 28 #[.int .i64 x1, .int .i64 y1] := by
          have := (BoxS.new (wr.alloc (.cells #[.int .i64 x2, .int .i64 y2] 28)) 28 #[.int .i64 x1, .int .i64 y1]).drew
          rw [World.size_alloc] at this
          exact this
        have hz := hB.size
        have hB2 : Below w.heap.size w (((wr.alloc (.cells #[.int .i64 x2, .int .i64 y2] 28)).alloc (.cells #[.int .i64 x1, .int .i64 y1] 28)).drew) := ((hB.alloc hz _).alloc (by rw [World.size_alloc]; omega) _).drew
        clear HH hB d0 d1 d2 d3 hbr hz
        generalize World.drew (World.alloc (World.alloc wr _) _) = wn at *
        have c0 := bp.cell 0 rfl
        have c1 := bp.cell 1 rfl
        have c2 := bq.cell 0 rfl
        have c3 := bq.cell 1 rfl
        have l1 := bp.lt
        have l2 := bq.lt
        go_wp2_with fail
        go_roundw
        case rel => exact ⟨k + 1, by omega, by go_num, by rw [HST1.out], hB2⟩
        case measure => simp [intOf]; omega
    · have hke : k = ps.length := by omega
      subst hke
      go_wp2_with fail
      go_returns
      exact ⟨by rw [HD.out]; rfl, hB⟩
end Go.Proofs.Ytmjcdggmofohcaa
