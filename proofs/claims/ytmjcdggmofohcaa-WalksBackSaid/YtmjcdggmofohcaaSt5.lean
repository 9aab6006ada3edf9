/- Walks: the points of a walk that no place reaches, by the reference and by the program. -/
import Derived.Test.YtmjcdggmofohcaaMovC
import Derived.Test.YtmjcdggmofohcaaWlSr
namespace Go.Proofs.Ytmjcdggmofohcaa
open Go.RowKit
set_option maxRecDepth 100000 in
set_option maxHeartbeats 8000000 in
theorem reach5_any (t : Wl.Trk) (A : Option Addr) (c : Nat) (a : Wl.Pt) (hs : ∀ k, k < t.ps.length → Geo.sm (Wl.ptAt t.ps k)) (ha : Geo.sm a) (hl : t.ps.length ≤ 1000) (w : World) (hP : Prs w w.heap.size A t.ps) :
    Calls Try.prog 56 #[.agg (trV t A c), .agg #[.int .i64 a.1, .int .i64 a.2]] w (OwnIPost (Wl.reachL t a) w) := by
  have HRE : Hid (∀ (p : Nat), p < t.ps.length → ∀ W, Below w.heap.size w W → Calls Try.prog 71 #[.agg (trV t A c), .int .i64 (p : Nat), .agg #[.int .i64 a.1, .int .i64 a.2]] W fun e w' => e = .returned (.bool (Wl.reachB t p a)) ∧ Below W.heap.size W w') := fun p hp W hW => Reaches5_any t A c p a hp (hs p hp) ha W (prs_keep hP hW) (by omega)
  have H0 : Hid (Wl.reTo t a 0 = []) := rfl
  have HS0 : Hid (∀ k : Nat, Wl.reTo t a (k + 1) = if Wl.reachB t (k : Int) a then Wl.reTo t a k ++ [(k : Int)] else Wl.reTo t a k) := fun _ => rfl
  have HE : Hid (Wl.reachL t a = Wl.reTo t a t.ps.length) := (Wl.reTo_eq t a _).symm
  have HL : Hid (∀ k, (Wl.reTo t a k).length ≤ k) := Wl.reTo_len t a
  generalize Wl.reTo t a = RT at *
  generalize Wl.reachL t a = RL at *
  obtain ⟨ps, cl, lo, hi⟩ := t
  obtain ⟨a1, a2⟩ := a
  unfold trV at *
  dsimp only at *
  generalize hrb : (fun p : Int => Wl.reachB ⟨ps, cl, lo, hi⟩ p (a1, a2)) = RB at *
  have HRB : ∀ p : Int, Wl.reachB ⟨ps, cl, lo, hi⟩ p (a1, a2) = RB p := fun p => by rw [← hrb]
  simp only [HRB] at HRE HS0
  clear hP hs ha hrb HRB
  go_enter Try.func56, Try.ntmps56
  go_wp2_with fail
  have bM := (BoxS.new w 26 #[.slice A ps.length c, .int .i64 cl, .int .i64 lo, .int .i64 hi]).alloc (.cells #[.int .i64 a1, .int .i64 a2] 28)
  have bP := BoxS.new (w.alloc (.cells #[.slice A ps.length c, .int .i64 cl, .int .i64 lo, .int .i64 hi] 26)) 28 #[.int .i64 a1, .int .i64 a2]
  rw [World.size_alloc] at bP
  have hBb : Below w.heap.size w ((w.alloc (.cells #[.slice A ps.length c, .int .i64 cl, .int .i64 lo, .int .i64 hi] 26)).alloc (.cells #[.int .i64 a1, .int .i64 a2] 28)) := by (repeat' (first | (with_reducible exact Below.refl _ _) | (with_reducible assumption) | (with_reducible refine Below.alloc ?_ ?_ _) | (with_reducible refine Below.drew ?_) | (with_reducible refine Below.setCell ?_ ?_ _) | go_size | (exact (by simp)) | omega))
  generalize World.alloc (World.alloc w _) _ = wb at *
  try go_wp2_with fail
  go_loopg [5, 6] ps.length (fun g x5 x6 wx => ∃ k : Nat, Hid (k + g = ps.length) ∧ (k : Int) ≤ ps.length ∧ x6 = .int .i64 (k : Int) ∧ Below wb.heap.size wb wx ∧ wx.ownsRow wb.heap.size 3 1 x5 (RT k).length ((RT k).map (Value.int .i64)))
  case atStart => exact ⟨0, by simp [Hid], by omega, rfl, Below.refl _ _, by rw [H0.out]; exact owni_nil _ _⟩
  case round =>
    obtain ⟨k, hk, hk1, rfl, hbb, hown⟩ := hrel
    have hk0 := Int.natCast_nonneg k
    have bM1 := bM.below hbb
    have bP1 := bP.below hbb
    by_cases hlt : (k : Int) < ps.length
    · have hkn : k < ps.length := by omega
      have HS := Lib.hid (HS0.out k)
      have hln := HL.out k
      have HO := Lib.hid hown
      have HR1 := Lib.hid (fun W (hW : Below wr.heap.size wr W) => HRE.out k hkn W (hBb.trans (hbb.mono hBb.size |>.trans (hW.mono (Nat.le_trans hBb.size hbb.size)))))
      have hw1 : IntKind.i64.wrap ((k : Int) + 1) = (k : Int) + 1 := IntWalk.i64_in _ (by omega)
      have hsz := hbb.size
      clear hown HS0
      generalize RT k = L at *
      have s0 := bM1.cell 0 rfl
      have s1 := bM1.cell 1 rfl
      have s2 := bM1.cell 2 rfl
      have s3 := bM1.cell 3 rfl
      have p0 := bP1.cell 0 rfl
      have p1 := bP1.cell 1 rfl
      have lM := bM1.lt
      have lP := bP1.lt
      cases hb : RB k with
      | true =>
        rw [hb] at HR1
        have HS2 : Hid (RT (k + 1) = L ++ [(k : Int)]) := by unfold Hid; rw [HS.out, if_pos hb]
        clear hb
        go_wp2_with fail
        refine (HR1.out _ (Below.refl _ _)).mono ?_
        rintro e w2 ⟨rfl, hb2⟩
        have HO2 := Lib.hid (owni_below HO.out hb2)
        have hb2' := hbb.trans (hb2.mono hbb.size)
        clear s0 s1 s2 s3 p0 p1 lM lP HO
        go_wp2_with (at_builtin; refine wpList_pushi rfl (.tmp 18) (.tmp 20) rfl (k : Int) wb.heap.size _ _ _ rfl rfl HO2.out (by have := hb2'.size; omega) (by omega) ?_; intro v' w5 hown5 hb5; have HO5 := Lib.hid hown5; clear hown5)
        obtain ⟨g', hg'⟩ : ∃ g', gk = g' + 1 := ⟨gk - 1, by have := hk.out; omega⟩
        go_roundg g'
        case measure => omega
        case rel =>
          refine ⟨k + 1, by have := hk.out; simp only [Hid]; omega, by omega, by go_num, hb2'.trans hb5, ?_⟩
          rw [HS2.out, List.length_append, List.map_append]
          exact HO5.out
      | false =>
        rw [hb] at HR1
        have HS2 : Hid (RT (k + 1) = L) := by unfold Hid; rw [HS.out, hb]; rfl
        clear hb
        go_wp2_with fail
        refine (HR1.out _ (Below.refl _ _)).mono ?_
        rintro e w2 ⟨rfl, hb2⟩
        have HO2 := Lib.hid (owni_below HO.out hb2)
        have hb2' := hbb.trans (hb2.mono hbb.size)
        clear s0 s1 s2 s3 p0 p1 lM lP HO
        go_wp2_with fail
        obtain ⟨g', hg'⟩ : ∃ g', gk = g' + 1 := ⟨gk - 1, by have := hk.out; omega⟩
        go_roundg g'
        case measure => omega
        case rel =>
          refine ⟨k + 1, by have := hk.out; simp only [Hid]; omega, by omega, by go_num, hb2', ?_⟩
          rw [HS2.out]
          exact HO2.out
    · have s0 := bM1.cell 0 rfl
      have lM := bM1.lt
      have ek : k = ps.length := by omega
      rw [ek, ← HE.out] at hown
      have hI := Lib.hid (hown.mono hBb.size)
      have hBr := hBb.trans (hbb.mono hBb.size)
      clear hown ek
      go_wp2_with fail
      go_returns
      exact ⟨_, rfl, hI, hBr⟩
set_option maxRecDepth 100000 in
set_option maxHeartbeats 4000000 in
theorem samePoints5_yes (A A2 : Option Addr) (c c2 : Nat) (ps : List (Int × Int)) (hl : ps.length ≤ 1000000) (w : World) (hP : Prs w w.heap.size A ps) (hP2 : Prs w w.heap.size A2 ps) :
    Calls Try.prog 23 #[.slice A ps.length c, .slice A2 ps.length c2] w fun e w' => e = .returned (.bool true) ∧ Below w.heap.size w w' := by
  have H1 := Lib.hid hP
  have H2 := Lib.hid hP2
  have hmo : Try.prog.follows .mixedOrders = true := by kernel_rfl
  clear hP hP2
  go_enter Try.func23, Try.ntmps23
  go_wp2_with fail
  go_loopw [5] (fun x wr => ∃ k : Nat, (k : Int) ≤ ps.length ∧ x = .int .i64 k ∧ Below w.heap.size w wr) (fun x _ => (ps.length - intOf x).toNat)
  case atStart => exact ⟨0, by omega, rfl, Below.refl _ _⟩
  case round =>
    obtain ⟨k, hk, rfl, hB⟩ := hrel
    have hk0 := Int.natCast_nonneg k
    by_cases hlt : (k : Int) < ps.length
    · have hkl : k < ps.length := by omega
      have hg : ps[k]? = some ps[k] := List.getElem?_eq_getElem hkl
      obtain ⟨b, off, rfl, hb, hc⟩ := H1.out (by omega)
      obtain ⟨b2, off2, rfl, hb2, hc2⟩ := H2.out (by omega)
      have d0 := (hB.cell (p := ⟨b, off + k * 2, none⟩) hb).trans (hc k _ hg).1
      have d1 := (hB.cell (p := ⟨b, off + k * 2 + 1, none⟩) hb).trans (hc k _ hg).2
      have d2 := (hB.cell (p := ⟨b2, off2 + k * 2, none⟩) hb2).trans (hc2 k _ hg).1
      have d3 := (hB.cell (p := ⟨b2, off2 + k * 2 + 1, none⟩) hb2).trans (hc2 k _ hg).2
      clear hc hc2 hg H1 H2
      generalize ps[k] = p at *
      obtain ⟨x, y⟩ := p
      dsimp only at d0 d1 d2 d3
      have hw3 : IntKind.i64.wrap ((k : Int) + 1) = (k : Int) + 1 := IntWalk.i64_in _ (by omega)
      have e1 : decide ((k : Int) < 0) = false := decide_eq_false (by omega)
      have e2 : decide ((ps.length : Int) ≤ (k : Int)) = false := decide_eq_false (by omega)
      have e4 : decide (ps.length ≤ k) = false := decide_eq_false (by omega)
      go_wp2_with fail
      refine (wpIn_wide (n := 4)).1 ?_
      refine wpIn_region_held (fun W' => W' = wr.drew) 30 hmo ?_
      refine wpHeldIn_take (i := 0) (v := ?_) (plain_of (by kernel_rfl)) rfl (by kernel_rfl) (fun _ _ _ h => h) (yieldsSoIn_of (by kernel_rfl) ?_ (fun _ => rfl)) rfl ?_; rotate_left; focus (intro w hw; cases hw; go_simp; try (with_reducible rfl))
      refine wpHeldIn_take (i := 1) (v := ?_) (plain_of (by kernel_rfl)) rfl (by kernel_rfl) (fun _ _ _ h => h) (yieldsSoIn_of (by kernel_rfl) ?_ (fun _ => rfl)) rfl ?_; rotate_left; focus (intro w hw; cases hw; go_simp; try (with_reducible rfl))
      refine wpHeldIn_take (i := 2) (v := ?_) (plain_of (by kernel_rfl)) rfl (by kernel_rfl) (fun _ _ _ h => h) (yieldsSoIn_of (by kernel_rfl) ?_ (fun _ => rfl)) rfl ?_; rotate_left; focus (intro w hw; cases hw; go_simp; try (with_reducible rfl))
      refine wpHeldIn_take (i := 3) (v := ?_) (plain_of (by kernel_rfl)) rfl (by kernel_rfl) (fun _ _ _ h => h) (yieldsSoIn_of (by kernel_rfl) ?_ (fun _ => rfl)) rfl ?_; rotate_left; focus (intro w hw; cases hw; go_simp; try (with_reducible rfl))
      refine wpHeldIn_take (i := 4) (v := ?_) (plain_of (by kernel_rfl)) rfl (by kernel_rfl) (fun _ _ _ h => h) (yieldsSoIn_of (by kernel_rfl) ?_ (fun _ => rfl)) rfl ?_; rotate_left; focus (intro w hw; cases hw; go_simp; try (with_reducible rfl))
      refine wpHeldIn_take (i := 5) (v := ?_) (plain_of (by kernel_rfl)) rfl (by kernel_rfl) (fun _ _ _ h => h) (yieldsSoIn_of (by kernel_rfl) ?_ (fun _ => rfl)) rfl ?_; rotate_left; focus (intro w hw; cases hw; go_simp; try (with_reducible rfl))
      refine wpHeldIn_take (i := 6) (v := ?_) (plain_of (by kernel_rfl)) rfl (by kernel_rfl) (fun _ _ _ h => h) (yieldsSoIn_of (by kernel_rfl) ?_ (fun _ => rfl)) rfl ?_; rotate_left; focus (intro w hw; cases hw; go_simp; try (with_reducible rfl))
      refine wpHeldIn_take (i := 7) (v := ?_) (plain_of (by kernel_rfl)) rfl (by kernel_rfl) (fun _ _ _ h => h) (yieldsSoIn_of (by kernel_rfl) ?_ (fun _ => rfl)) rfl ?_; rotate_left; focus (intro w hw; cases hw; go_simp; try (with_reducible rfl))
      refine wpHeldIn_take (i := 8) (v := ?_) (plain_of (by kernel_rfl)) rfl (by kernel_rfl) (fun _ _ _ h => h) (yieldsSoIn_of (by kernel_rfl) ?_ (fun _ => rfl)) rfl ?_; rotate_left; focus (intro w hw; cases hw; go_simp; try (with_reducible rfl))
      refine wpHeldIn_done (by kernel_rfl) ?_ _
      go_simp
      have hB2 : Below w.heap.size w wr.drew := hB.drew
      go_wp2_with fail
      go_roundw
      case rel => exact ⟨k + 1, by omega, by go_num, hB2⟩
      case measure => simp [intOf]; omega
    · go_wp2_with fail
      go_returns
      exact ⟨rfl, hB⟩
namespace Wl
theorem dblTo_bd5 {ps : List Pt} (h : ∀ k, k < ps.length → Geo.sm (ptAt ps k)) (h0 : 0 < ps.length) : ∀ k : Nat, k ≤ ps.length → -(2000000 * (k : Int)) ≤ dblTo ps k ∧ dblTo ps k ≤ 2000000 * (k : Int)
  | 0, _ => by simp [dblTo]
  | k + 1, hk => by
    have ih := dblTo_bd5 h h0 k (by omega)
    have hc := cr_bd (h k (by omega)) (h ((k + 1) % ps.length) (Nat.mod_lt _ h0))
    show -(2000000 * ((k + 1 : Nat) : Int)) ≤ dblTo ps k + cr _ _ ∧ dblTo ps k + cr _ _ ≤ 2000000 * ((k + 1 : Nat) : Int)
    omega
end Wl
set_option maxRecDepth 100000 in
set_option maxHeartbeats 4000000 in
theorem Doubled5_any (A : Option Addr) (c : Nat) (ps : List Wl.Pt) (hs : ∀ k, k < ps.length → Geo.sm (Wl.ptAt ps k)) (hl : ps.length ≤ 1000) (w : World) (hP : Prs w w.heap.size A ps) :
    Calls Try.prog 53 #[.slice A ps.length c] w fun e w' => e = .returned (.int .i64 (Wl.dbl ps)) ∧ Below w.heap.size w w' := by
  have H1 := Lib.hid hP
  have hmo : Try.prog.follows .mixedOrders = true := by kernel_rfl
  have HD : Hid (Wl.dbl ps = Wl.dblTo ps ps.length) := rfl
  have HS0 : Hid (∀ k, Wl.dblTo ps (k + 1) = Wl.dblTo ps k + Wl.cr (Wl.ptAt ps k) (Wl.ptAt ps ((k + 1) % ps.length))) := fun _ => rfl
  have HB : Hid (∀ k, k ≤ ps.length → 0 < ps.length → -(2000000 * (k : Int)) ≤ Wl.dblTo ps k ∧ Wl.dblTo ps k ≤ 2000000 * (k : Int)) := fun k hk h0 => Wl.dblTo_bd5 hs h0 k hk
  have H0 : Hid (Wl.dblTo ps 0 = 0) := rfl
  have HSM := Lib.hid hs
  clear hP hs
  generalize Wl.dbl ps = DP at *
  generalize Wl.dblTo ps = DT at *
  go_enter Try.func53, Try.ntmps53
  go_wp2_with fail
  go_loopw [3, 4] (fun x y wr => ∃ k : Nat, (k : Int) ≤ ps.length ∧ y = .int .i64 k ∧ x = .int .i64 (DT k) ∧ Below w.heap.size w wr) (fun _ y _ => (ps.length - intOf y).toNat)
  case atStart => exact ⟨0, by omega, rfl, by rw [H0.out], Below.refl _ _⟩
  case round =>
    obtain ⟨k, hk, rfl, rfl, hB⟩ := hrel
    have hk0 := Int.natCast_nonneg k
    by_cases hlt : (k : Int) < ps.length
    · have hkl : k < ps.length := by omega
      have h0l : 0 < ps.length := by omega
      have hnl : (k + 1) % ps.length < ps.length := Nat.mod_lt _ h0l
      have hg1 : ps[k]? = some (Wl.ptAt ps k) := by unfold Wl.ptAt; rw [List.getElem?_eq_getElem hkl]; rfl
      have hg2 : ps[(k + 1) % ps.length]? = some (Wl.ptAt ps ((k + 1) % ps.length)) := by unfold Wl.ptAt; rw [List.getElem?_eq_getElem hnl]; rfl
      have HST := Lib.hid (HS0.out k)
      have hmb := HB.out k (by omega) h0l
      have s1 := HSM.out k hkl
      have s2 := HSM.out _ hnl
      obtain ⟨b, off, rfl, hb, hc⟩ := H1.out h0l
      have d0 := (hB.cell (p := ⟨b, off + k * 2, none⟩) hb).trans (hc k _ hg1).1
      have d1 := (hB.cell (p := ⟨b, off + k * 2 + 1, none⟩) hb).trans (hc k _ hg1).2
      have d2 := (hB.cell (p := ⟨b, off + (k + 1) % ps.length * 2, none⟩) hb).trans (hc _ _ hg2).1
      have d3 := (hB.cell (p := ⟨b, off + (k + 1) % ps.length * 2 + 1, none⟩) hb).trans (hc _ _ hg2).2
      have hr1 : ((k : Int) + 1) % (ps.length : Int) = (((k + 1) % ps.length : Nat) : Int) := by rw [Int.natCast_emod]; rfl
      have hr2 : ((k : Int) + 1).tmod (ps.length : Int) = (((k + 1) % ps.length : Nat) : Int) := by rw [Int.tmod_eq_emod_of_nonneg (by omega)]; exact hr1
      have hw1 : IntKind.i64.wrap ((k : Int) + 1) = (k : Int) + 1 := IntWalk.i64_in _ (by omega)
      have hne : ¬ (ps.length : Int) = 0 := by omega
      have hne2 : ¬ ps.length = 0 := by omega
      have hne3 : ¬ ps = [] := by intro e; subst e; simp at hne2
      clear hc hg1 hg2 hr1 H1 HS0 HB HSM
      generalize Wl.ptAt ps ((k + 1) % ps.length) = q at *
      generalize Wl.ptAt ps k = p at *
      generalize (k + 1) % ps.length = r at *
      have hcb := Wl.cr_bd s1 s2
      obtain ⟨x1, y1⟩ := p
      obtain ⟨x2, y2⟩ := q
      unfold Geo.sm at s1 s2
      dsimp only at *
      have m1 : -(1000 * 1000) ≤ x1 * y2 ∧ x1 * y2 ≤ 1000 * 1000 := mul_bd (by omega) (by omega) (by omega) (by omega)
      have m2 : -(1000 * 1000) ≤ y1 * x2 ∧ y1 * x2 ≤ 1000 * 1000 := mul_bd (by omega) (by omega) (by omega) (by omega)
      have hcr : Wl.cr (x1, y1) (x2, y2) = x1 * y2 - y1 * x2 := rfl
      rw [hcr] at hcb
      have HST1 : Hid (DT (k + 1) = DT k + (x1 * y2 - y1 * x2)) := by rw [← hcr]; exact HST.out
      clear HST hcr
      generalize DT k = m at *
      have v1 : IntKind.i64.wrap (x1 * y2) = x1 * y2 := IntWalk.i64_in _ (by omega)
      have v2 : IntKind.i64.wrap (y1 * x2) = y1 * x2 := IntWalk.i64_in _ (by omega)
      have v3 : IntKind.i64.wrap (x1 * y2 - y1 * x2) = x1 * y2 - y1 * x2 := IntWalk.i64_in _ (by omega)
      have v4 : IntKind.i64.wrap (m + (x1 * y2 - y1 * x2)) = m + (x1 * y2 - y1 * x2) := IntWalk.i64_in _ (by omega)
      have hw2 : IntKind.i64.wrap (r : Int) = (r : Int) := IntWalk.i64_in _ (by omega)
      have hr0 : (0 : Int) ≤ (r : Int) := Int.natCast_nonneg r
      have hrl : (r : Int) < (ps.length : Int) := by omega
      have e1 : decide ((k : Int) < 0) = false := decide_eq_false (by omega)
      have e2 : decide ((ps.length : Int) ≤ (k : Int)) = false := decide_eq_false (by omega)
      have e4 : decide (ps.length ≤ k) = false := decide_eq_false (by omega)
      have e5 : decide ((r : Int) < 0) = false := decide_eq_false (by omega)
      have e6 : decide ((ps.length : Int) ≤ (r : Int)) = false := decide_eq_false (by omega)
      have e7 : decide (ps.length ≤ r) = false := decide_eq_false (by omega)
      clear m1 m2 hcb hmb s1 s2
      go_wp2_with fail
      have hbr : b < wr.heap.size := by have := hB.size; omega
      have HH := Lib.hid (And.intro hB HST1)
      have HD2 := HD
      clear hB HST1
      go_region
      · obtain ⟨hB, HST1⟩ := HH.out
        have bp : BoxS (((wr.alloc (.cells #[.int .i64 x1, .int .i64 y1] 28)).alloc (.cells #[.int .i64 x2, .int .i64 y2] 28)).drew) wr.heap.size 28 #[.int .i64 x1, .int .i64 y1] := ((BoxS.new wr 28 #[.int .i64 x1, .int .i64 y1]).alloc (.cells #[.int .i64 x2, .int .i64 y2] 28)).drew
        have bq : BoxS (((wr.alloc (.cells #[.int .i64 x1, .int .i64 y1] 28)).alloc (.cells #[.int .i64 x2, .int .i64 y2] 28)).drew) (wr.heap.size + 1) 28 #[.int .i64 x2, .int .i64 y2] := by
          have := (BoxS.new (wr.alloc (.cells #[.int .i64 x1, .int .i64 y1] 28)) 28 #[.int .i64 x2, .int .i64 y2]).drew
          rw [World.size_alloc] at this
          exact this
        have hz := hB.size
        have hB2 : Below w.heap.size w (((wr.alloc (.cells #[.int .i64 x1, .int .i64 y1] 28)).alloc (.cells #[.int .i64 x2, .int .i64 y2] 28)).drew) := ((hB.alloc hz _).alloc (by rw [World.size_alloc]; omega) _).drew
        clear HH hB d0 d1 d2 d3 hbr hz
        generalize World.drew (World.alloc (World.alloc wr _) _) = wn at *
        have c0 := bp.cell 0 rfl
        have c1 := bp.cell 1 rfl
        have c2 := bq.cell 0 rfl
        have c3 := bq.cell 1 rfl
        have l1 := bp.lt
        have l2 := bq.lt
        go_wp2_with fail
        go_roundw
        case rel => exact ⟨k + 1, by omega, by go_num, by rw [HST1.out], hB2⟩
        case measure => simp [intOf]; omega
      · obtain ⟨hB, HST1⟩ := HH.out
        have bq : BoxS (((wr.alloc (.cells #[.int .i64 x2, .int .i64 y2] 28)).alloc (.cells #[.int .i64 x1, .int .i64 y1] 28)).drew) wr.heap.size 28 #[.int .i64 x2, .int .i64 y2] := ((BoxS.new wr 28 #[.int .i64 x2, .int .i64 y2]).alloc (.cells #[.int .i64 x1, .int .i64 y1] 28)).drew
        have bp : BoxS (((wr.alloc (.cells #[.int .i64 x2, .int .i64 y2] 28)).alloc (.cells #[.int .i64 x1, .int .i64 y1] 28)).drew) (wr.heap.size + 1) 28 #[.int .i64 x1, .int .i64 y1] := by
          have := (BoxS.new (wr.alloc (.cells #[.int .i64 x2, .int .i64 y2] 28)) 28 #[.int .i64 x1, .int .i64 y1]).drew
          rw [World.size_alloc] at this
          exact this
        have hz := hB.size
        have hB2 : Below w.heap.size w (((wr.alloc (.cells #[.int .i64 x2, .int .i64 y2] 28)).alloc (.cells #[.int .i64 x1, .int .i64 y1] 28)).drew) := ((hB.alloc hz _).alloc (by rw [World.size_alloc]; omega) _).drew
        clear HH hB d0 d1 d2 d3 hbr hz
        generalize World.drew (World.alloc (World.alloc wr _) _) = wn at *
        have c0 := bp.cell 0 rfl
        have c1 := bp.cell 1 rfl
        have c2 := bq.cell 0 rfl
        have c3 := bq.cell 1 rfl
        have l1 := bp.lt
        have l2 := bq.lt
        go_wp2_with fail
        go_roundw
        case rel => exact ⟨k + 1, by omega, by go_num, by rw [HST1.out], hB2⟩
        case measure => simp [intOf]; omega
    · have hke : k = ps.length := by omega
      subst hke
      go_wp2_with fail
      go_returns
      exact ⟨by rw [HD.out]; rfl, hB⟩
end Go.Proofs.Ytmjcdggmofohcaa
namespace Go.Proofs.Ytmjcdggmofohcaa
open Go.RowKit
theorem reach5I_any (t : Wl.Trk) (A : Option Addr) (c : Nat) (a : Wl.Pt) (hs : ∀ k, k < t.ps.length → Geo.sm (Wl.ptAt t.ps k)) (ha : Geo.sm a) (hl : t.ps.length ≤ 1000) (w : World) (hP : Prs w w.heap.size A t.ps) :
    Calls Try.prog 56 #[.agg (trV t A c), .agg #[.int .i64 a.1, .int .i64 a.2]] w (IntsPost (Wl.reachL t a) w) :=
  (reach5_any t A c a hs ha hl w hP).mono fun e w' h => by
    obtain ⟨v, rfl, ho, hb⟩ := h
    exact ⟨v, rfl, Ints.of_own ho.out, hb⟩
set_option maxHeartbeats 1000000 in
theorem Area5_any (A : Option Addr) (c : Nat) (ps : List Wl.Pt) (hl : ps.length ≤ 1000000000) (w : World) (hP : Prs w w.heap.size A ps) :
    Calls Try.prog 17 #[.slice A ps.length c] w (TwoPost (if Wl.ptsB ps then Wl.dbl ps else 0) (if Wl.ptsB ps then 0 else 51) w) := by
  have HW : Hid (∀ W, Below w.heap.size w W → Calls Try.prog 39 #[.slice A ps.length c] W fun e w' => e = .returned (.bool (Wl.ptsB ps)) ∧ Below W.heap.size W w') := fun W hW => IsWalk5_any A c ps hl W (prs_keep hP hW)
  have HD : Hid (Wl.ptsB ps = true → ∀ W, Below w.heap.size w W → Calls Try.prog 53 #[.slice A ps.length c] W fun e w' => e = .returned (.int .i64 (Wl.dbl ps)) ∧ Below W.heap.size W w') := fun h W hW => Doubled5_any A c ps (fun k hk => Wl.pts_sm h hk) (by have := (Wl.pts_all h).2; omega) W (prs_keep hP hW)
  unfold TwoPost
  generalize Wl.dbl ps = DP at *
  generalize Wl.ptsB ps = PB at *
  clear hP hl
  go_enter Try.func17, Try.ntmps17
  go_wp2_with fail
  refine (HW.out _ (Below.refl _ _)).mono ?_
  rintro e w1 ⟨rfl, hb1⟩
  cases PB with
  | false =>
    go_wp2_with fail
    go_returns
    exact ⟨rfl, hb1⟩
  | true =>
    have HD1 := Lib.hid (HD.out rfl)
    clear HD
    go_wp2_with fail
    refine (HD1.out _ hb1).mono ?_
    rintro e w2 ⟨rfl, hb2⟩
    have hB2 := hb1.trans (hb2.mono hb1.size)
    go_wp2_with fail
    go_returns
    exact ⟨rfl, hB2⟩
set_option maxRecDepth 100000 in
set_option maxHeartbeats 8000000 in
theorem Reach5_any (t : Wl.Trk) (A : Option Addr) (c : Nat) (a : Wl.Pt) (hl : t.ps.length ≤ 1000000000) (w : World) (hP : Prs w w.heap.size A t.ps) :
    Calls Try.prog 19 #[.agg (trV t A c), .agg #[.int .i64 a.1, .int .i64 a.2]] w (IntsEPost (Wl.reachRL t a) (Wl.reachRE t a) w) := by
  have HT : Hid (∀ W, Below w.heap.size w W → Calls Try.prog 51 #[.agg (trV t A c)] W fun e w' => e = .returned (.bool (Wl.trkB t)) ∧ Below W.heap.size W w') := fun W hW => isTrack5_any t A c hl W (prs_keep hP hW)
  have HV : Hid (∀ W, Calls Try.prog 47 #[.agg #[.int .i64 a.1, .int .i64 a.2]] W fun e w' => e = .returned (.bool (Geo.ptB a)) ∧ Below W.heap.size W w') := fun W => IsPoint5_any a.1 a.2 W
  have HR : Hid (Wl.trkB t = true → Geo.ptB a = true → ∀ W, Below w.heap.size w W → Calls Try.prog 56 #[.agg (trV t A c), .agg #[.int .i64 a.1, .int .i64 a.2]] W (IntsPost (Wl.reachL t a) W)) := fun h1 h2 W hW => reach5I_any t A c a (Wl.trk_sm h1) (Wl.ptB_sm h2) (by have := (Wl.trk_parts h1).2.2; omega) W (prs_keep hP hW)
  have HL : Hid (Wl.reachRL t a = if Wl.trkB t then (if Geo.ptB a then Wl.reachL t a else []) else []) := rfl
  have HE : Hid (Wl.reachRE t a = if Wl.trkB t then (if Geo.ptB a then 0 else 1) else 50) := rfl
  generalize Wl.reachRL t a = RL at *
  generalize Wl.reachRE t a = RE at *
  generalize Wl.reachL t a = RR at *
  generalize Wl.trkB t = b1 at *
  generalize Geo.ptB a = b2 at *
  clear hP hl
  obtain ⟨ps, cl, lo, hi⟩ := t
  obtain ⟨a1, a2⟩ := a
  unfold trV at *
  dsimp only at *
  cases b1 with
  | false =>
    have HL2 : Hid (RL = []) := HL.out
    have HE2 : Hid (RE = 50) := HE.out
    clear HL HE HR
    subst HL2
    subst HE2
    go_enter Try.func19, Try.ntmps19
    go_wp2_with fail
    have hB1 : Below w.heap.size w ((w.alloc (.cells #[.slice A ps.length c, .int .i64 cl, .int .i64 lo, .int .i64 hi] 26)).alloc (.cells #[.int .i64 a1, .int .i64 a2] 28)) := by (repeat' (first | (with_reducible exact Below.refl _ _) | (with_reducible assumption) | (with_reducible refine Below.alloc ?_ ?_ _) | (with_reducible refine Below.drew ?_) | (with_reducible refine Below.setCell ?_ ?_ _) | go_size | (exact (by simp)) | omega))
    generalize World.alloc (World.alloc w _) _ = w1 at *
    refine (HT.out _ hB1).mono ?_
    rintro e w2 ⟨rfl, hb2⟩
    have hB2 := hB1.trans (hb2.mono hB1.size)
    go_wp2_with fail
    go_returns
    exact ⟨_, rfl, .inl ⟨rfl, rfl⟩, hB2⟩
  | true =>
    cases b2 with
    | false =>
      have HL2 : Hid (RL = []) := HL.out
      have HE2 : Hid (RE = 1) := HE.out
      clear HL HE HR
      subst HL2
      subst HE2
      go_enter Try.func19, Try.ntmps19
      go_wp2_with fail
      have bP := BoxS.new (w.alloc (.cells #[.slice A ps.length c, .int .i64 cl, .int .i64 lo, .int .i64 hi] 26)) 28 #[.int .i64 a1, .int .i64 a2]
      rw [World.size_alloc] at bP
      have hB1 : Below w.heap.size w ((w.alloc (.cells #[.slice A ps.length c, .int .i64 cl, .int .i64 lo, .int .i64 hi] 26)).alloc (.cells #[.int .i64 a1, .int .i64 a2] 28)) := by (repeat' (first | (with_reducible exact Below.refl _ _) | (with_reducible assumption) | (with_reducible refine Below.alloc ?_ ?_ _) | (with_reducible refine Below.drew ?_) | (with_reducible refine Below.setCell ?_ ?_ _) | go_size | (exact (by simp)) | omega))
      generalize World.alloc (World.alloc w _) _ = w1 at *
      refine (HT.out _ hB1).mono ?_
      rintro e w2 ⟨rfl, hb2⟩
      have hB2 := hB1.trans (hb2.mono hB1.size)
      have bP2 := bP.below hb2
      have p0 := bP2.cell 0 rfl
      have p1 := bP2.cell 1 rfl
      have lP := bP2.lt
      go_wp2_with fail
      refine (HV.out _).mono ?_
      rintro e w3 ⟨rfl, hb3⟩
      have hB3 := hB2.trans (hb3.mono hB2.size)
      go_wp2_with fail
      go_returns
      exact ⟨_, rfl, .inl ⟨rfl, rfl⟩, hB3⟩
    | true =>
      have HL2 : Hid (RL = RR) := HL.out
      have HE2 : Hid (RE = 0) := HE.out
      have HR2 := Lib.hid (HR.out rfl rfl)
      clear HL HE HR
      subst HL2
      subst HE2
      go_enter Try.func19, Try.ntmps19
      go_wp2_with fail
      have bT := (BoxS.new w 26 #[.slice A ps.length c, .int .i64 cl, .int .i64 lo, .int .i64 hi]).alloc (.cells #[.int .i64 a1, .int .i64 a2] 28)
      have bP := BoxS.new (w.alloc (.cells #[.slice A ps.length c, .int .i64 cl, .int .i64 lo, .int .i64 hi] 26)) 28 #[.int .i64 a1, .int .i64 a2]
      rw [World.size_alloc] at bP
      have hB1 : Below w.heap.size w ((w.alloc (.cells #[.slice A ps.length c, .int .i64 cl, .int .i64 lo, .int .i64 hi] 26)).alloc (.cells #[.int .i64 a1, .int .i64 a2] 28)) := by (repeat' (first | (with_reducible exact Below.refl _ _) | (with_reducible assumption) | (with_reducible refine Below.alloc ?_ ?_ _) | (with_reducible refine Below.drew ?_) | (with_reducible refine Below.setCell ?_ ?_ _) | go_size | (exact (by simp)) | omega))
      generalize World.alloc (World.alloc w _) _ = w1 at *
      refine (HT.out _ hB1).mono ?_
      rintro e w2 ⟨rfl, hb2⟩
      have hB2 := hB1.trans (hb2.mono hB1.size)
      have bP2 := bP.below hb2
      have bT2 := bT.below hb2
      have p0 := bP2.cell 0 rfl
      have p1 := bP2.cell 1 rfl
      have lP := bP2.lt
      go_wp2_with fail
      refine (HV.out _).mono ?_
      rintro e w3 ⟨rfl, hb3⟩
      have hB3 := hB2.trans (hb3.mono hB2.size)
      clear p0 p1 lP
      have bP3 := bP2.below hb3
      have bT3 := bT2.below hb3
      have p0 := bP3.cell 0 rfl
      have p1 := bP3.cell 1 rfl
      have lP := bP3.lt
      obtain ⟨s0, s1, s2, s3⟩ := boxS4 bT3
      have lT := bT3.lt
      go_wp2_with fail
      refine (HR2.out _ hB3).mono ?_
      rintro e w4 ⟨v, rfl, hI, hb4⟩
      have hB4 := hB3.trans (hb4.mono hB3.size)
      go_wp2_with fail
      go_returns
      exact ⟨_, rfl, hI, hB4⟩
end Go.Proofs.Ytmjcdggmofohcaa
namespace Go.Proofs.Ytmjcdggmofohcaa
open Go.RowKit
namespace Wl
def stkTo (t : Trk) (ws : List Pt) : Nat → List Int
  | 0 => []
  | k + 1 => if (reachL t (ptAt ws k)).length = 0 then stkTo t ws k ++ [(k : Int)] else stkTo t ws k
theorem stkTo_len (t : Trk) (ws : List Pt) : ∀ k, (stkTo t ws k).length ≤ k
  | 0 => Nat.le_refl _
  | k + 1 => by
    have := stkTo_len t ws k
    show (if (reachL t (ptAt ws k)).length = 0 then stkTo t ws k ++ [(k : Int)] else stkTo t ws k).length ≤ k + 1
    split
    · simp; omega
    · omega
def stkL (t : Trk) (ws : List Pt) : List Int := if chkV t ws = 0 then stkTo t ws ws.length else []
end Wl
set_option maxRecDepth 100000 in
set_option maxHeartbeats 8000000 in
theorem Stuck5_yes (t : Wl.Trk) (ws : List Wl.Pt) (A Aw : Option Addr) (c cw : Nat) (hl : t.ps.length ≤ 1000000000) (hlw : ws.length ≤ 1000000000) (h0 : Wl.chkV t ws = 0) (w : World) (hP : Prs w w.heap.size A t.ps) (hQ : Prs w w.heap.size Aw ws) :
    Calls Try.prog 21 #[.agg (trV t A c), .slice Aw ws.length cw] w (IntsEPost (Wl.stkTo t ws ws.length) 0 w) := by
  obtain ⟨ht, hw⟩ := Wl.chk_yes.1 h0
  have hl8 := (Wl.pts_all hw).2
  have hl9 : t.ps.length ≤ 8 := (Wl.trk_parts ht).2.2.2
  have hmo : Try.prog.follows .mixedOrders = true := by kernel_rfl
  have HC : Hid (∀ W, Below w.heap.size w W → Calls Try.prog 15 #[.agg (trV t A c), .slice Aw ws.length cw] W (ErrPost (Wl.chkV t ws) W)) := fun W hW => Check5_any t ws A Aw c cw hl hlw W (prs_keep hP hW) (prs_keep hQ hW)
  have HRE : Hid (∀ k, k < ws.length → ∀ W, Below w.heap.size w W → Calls Try.prog 56 #[.agg (trV t A c), .agg #[.int .i64 (Wl.ptAt ws k).1, .int .i64 (Wl.ptAt ws k).2]] W (IntsPost (Wl.reachL t (Wl.ptAt ws k)) W)) := fun k hk W hW => reach5I_any t A c (Wl.ptAt ws k) (Wl.trk_sm ht) (Wl.pts_sm hw hk) (by omega) W (prs_keep hP hW)
  have HPW : Hid (∀ k, k < ws.length → ∀ W, Below w.heap.size w W → ∃ b off, Aw = some ⟨b, off, none⟩ ∧ b < w.heap.size ∧ W.cell? ⟨b, off + k * 2, none⟩ = some (.int .i64 (Wl.ptAt ws k).1) ∧ W.cell? ⟨b, off + k * 2 + 1, none⟩ = some (.int .i64 (Wl.ptAt ws k).2)) := fun k hk W hW => by
    obtain ⟨b, off, e, hb, hc⟩ := hQ (by omega)
    have hg : ws[k]? = some (Wl.ptAt ws k) := by unfold Wl.ptAt; rw [List.getElem?_eq_getElem hk]; rfl
    exact ⟨b, off, e, hb, (hW.cell (p := ⟨b, _, none⟩) hb).trans (hc k _ hg).1, (hW.cell (p := ⟨b, _, none⟩) hb).trans (hc k _ hg).2⟩
  have H0 : Hid (Wl.stkTo t ws 0 = []) := rfl
  have HS0 : Hid (∀ k : Nat, Wl.stkTo t ws (k + 1) = if (Wl.reachL t (Wl.ptAt ws k)).length = 0 then Wl.stkTo t ws k ++ [(k : Int)] else Wl.stkTo t ws k) := fun _ => rfl
  have HL : Hid (∀ k, (Wl.stkTo t ws k).length ≤ k) := Wl.stkTo_len t ws
  rw [h0] at HC
  clear hP hQ ht hw h0
  unfold IntsPost at HRE
  unfold ErrPost at HC
  generalize Wl.stkTo t ws = RT at *
  obtain ⟨RL, hRL⟩ : ∃ RL : Nat → List Int, ∀ k, Wl.reachL t (Wl.ptAt ws k) = RL k := ⟨fun k => Wl.reachL t (Wl.ptAt ws k), fun _ => rfl⟩
  simp only [hRL] at HRE HS0
  clear hRL
  obtain ⟨ps, cl, lo, hi⟩ := t
  unfold trV at *
  dsimp only at *
  go_enter Try.func21, Try.ntmps21
  go_wp2_with fail
  have bT := BoxS.new w 26 #[.slice A ps.length c, .int .i64 cl, .int .i64 lo, .int .i64 hi]
  have hBa : Below w.heap.size w (w.alloc (.cells #[.slice A ps.length c, .int .i64 cl, .int .i64 lo, .int .i64 hi] 26)) := by (repeat' (first | (with_reducible exact Below.refl _ _) | (with_reducible assumption) | (with_reducible refine Below.alloc ?_ ?_ _) | (with_reducible refine Below.drew ?_) | (with_reducible refine Below.setCell ?_ ?_ _) | go_size | (exact (by simp)) | omega))
  generalize World.alloc w _ = wa at *
  obtain ⟨s0, s1, s2, s3⟩ := boxS4 bT
  have lT := bT.lt
  try go_wp2_with fail
  refine (HC.out _ hBa).mono ?_
  rintro e wb ⟨rfl, hb⟩
  have hBb := hBa.trans (hb.mono hBa.size)
  have bT0 := bT.below hb
  clear s0 s1 s2 s3 lT bT hBa hb HC
  go_wp2_with fail
  go_loopg [7, 8] ws.length (fun g x y wx => ∃ k : Nat, Hid (k + g = ws.length) ∧ (k : Int) ≤ ws.length ∧ y = .int .i64 (k : Int) ∧ Below wb.heap.size wb wx ∧ wx.ownsRow wb.heap.size 3 1 x (RT k).length ((RT k).map (Value.int .i64)))
  case atStart => exact ⟨0, by simp [Hid], by omega, rfl, Below.refl _ _, by rw [H0.out]; exact owni_nil _ _⟩
  case round =>
    obtain ⟨k, hk, hk1, rfl, hbb, hown⟩ := hrel
    have hk0 := Int.natCast_nonneg k
    have bT1 := bT0.below hbb
    have hBw := hBb.trans (hbb.mono hBb.size)
    by_cases hlt : (k : Int) < ws.length
    · have hkn : k < ws.length := by omega
      have HS := Lib.hid (HS0.out k)
      have hln := HL.out k
      have HO := Lib.hid hown
      have HR1 := Lib.hid (HRE.out k hkn)
      have hw1 : IntKind.i64.wrap ((k : Int) + 1) = (k : Int) + 1 := IntWalk.i64_in _ (by omega)
      have hsz := hbb.size
      have hqq : Below wr.heap.size wr wr.drew := (Below.refl _ _).drew
      obtain ⟨b, off, hAe, hbl, _, _⟩ := HPW.out k hkn _ hBw
      have KC : Hid (∀ W', Below wr.heap.size wr W' → (W'.cell? ⟨w.heap.size, 0, none⟩ = some (.slice A ps.length c) ∧ W'.cell? ⟨w.heap.size, 1, none⟩ = some (.int .i64 cl) ∧ W'.cell? ⟨w.heap.size, 2, none⟩ = some (.int .i64 lo) ∧ W'.cell? ⟨w.heap.size, 3, none⟩ = some (.int .i64 hi)) ∧ W'.cell? ⟨b, off + k * 2, none⟩ = some (.int .i64 (Wl.ptAt ws k).1) ∧ W'.cell? ⟨b, off + k * 2 + 1, none⟩ = some (.int .i64 (Wl.ptAt ws k).2)) := fun W' h => by
        obtain ⟨b2, off2, e2, _, c1, c2⟩ := HPW.out k hkn _ (hBw.trans (h.mono hBw.size))
        rw [hAe] at e2
        obtain ⟨rfl, rfl⟩ : b = b2 ∧ off = off2 := by injection e2 with e2; injection e2 with e3 e4; exact ⟨e3, e4⟩
        exact ⟨boxS4 (bT1.below h), c1, c2⟩
      clear hown HS0 HPW HRE
      subst hAe
      generalize (Wl.ptAt ws k).1 = px at *
      generalize (Wl.ptAt ws k).2 = py at *
      generalize RT k = L at *
      generalize RL k = RK at *
      have d1 : decide ((k : Int) < 0) = false := decide_eq_false (by omega)
      have d2 : decide ((ws.length : Int) ≤ (k : Int)) = false := decide_eq_false (by omega)
      have d4 : decide (ws.length ≤ k) = false := decide_eq_false (by omega)
      have hbr : b < wr.heap.size := by have := hBw.size; omega
      by_cases hz : RK.length = 0
      · have hz1 : ((RK.length : Int) == 0) = true := by simp [hz]
        have HS2 : Hid (RT (k + 1) = L ++ [(k : Int)]) := by unfold Hid; rw [HS.out, if_pos hz]
        replace hz := Lib.hid hz
        go_wp2_with fail
        refine (wpIn_wide (n := 4)).1 ?_
        refine wpIn_region_held (fun W' => Below wr.heap.size wr W') 30 hmo ?_
        refine wpHeldIn_take (i := 0) (v := ?_) (plain_of (by kernel_rfl)) rfl (by kernel_rfl) (fun _ _ _ h => h) (yieldsSoIn_of (by kernel_rfl) ?_ (fun _ => rfl)) hqq ?_; rotate_left; focus (intro wq hw; have kq := KC.out wq hw; clear hw; go_simp; try (with_reducible rfl))
        refine wpHeldIn_take (i := 1) (v := ?_) (plain_of (by kernel_rfl)) rfl (by kernel_rfl) (fun _ _ _ h => h) (yieldsSoIn_of (by kernel_rfl) ?_ (fun _ => rfl)) hqq ?_; rotate_left; focus (intro wq hw; clear hw; go_simp; try (with_reducible rfl))
        refine wpHeldIn_take (i := 2) (v := ?_) (plain_of (by kernel_rfl)) rfl (by kernel_rfl) (fun _ _ _ h => h) (yieldsSoIn_of (by kernel_rfl) ?_ (fun _ => rfl)) hqq ?_; rotate_left; focus (intro wq hw; clear hw; go_simp; try (with_reducible rfl))
        refine wpHeldIn_take (i := 3) (v := ?_) (plain_of (by kernel_rfl)) rfl (by kernel_rfl) (fun _ _ _ h => h) (yieldsSoIn_of (by kernel_rfl) ?_ (fun _ => rfl)) hqq ?_; rotate_left; focus (intro wq hw; clear hw; go_simp; try (with_reducible rfl))
        refine wpHeldIn_take (i := 4) (v := ?_) (plain_of (by kernel_rfl)) rfl (by kernel_rfl) (fun _ _ _ h => h) (yieldsSoIn_of (by kernel_rfl) ?_ (fun _ => rfl)) hqq ?_; rotate_left; focus (intro wq hw; have kq := KC.out wq hw; clear hw; go_simp; try (with_reducible rfl))
        refine wpHeldIn_one (i := 5) (by kernel_rfl) (by kernel_rfl) rfl (by kernel_rfl) (fun K2 hK2 => ?_)
        go_simp
        refine ⟨trivial, (callsIn_wide.2 (HR1.out _ (hBw.trans (hqq.mono hBw.size)))).mono ?_⟩
        rintro e w8 ⟨v8, rfl, hI8, hb8⟩
        obtain ⟨A8, c8, rfl⟩ := ints_form hI8.out
        have q8 := hqq.trans (hb8.mono hqq.size)
        refine hK2 _ _ q8 ?_
        refine wpHeldIn_take (i := 6) (v := ?_) (plain_of (by kernel_rfl)) rfl (by kernel_rfl) (fun _ _ _ h => h) (yieldsSoIn_of (by kernel_rfl) ?_ (fun _ => rfl)) q8 ?_; rotate_left; focus (intro wq hw; clear hw; go_simp; try (with_reducible rfl))
        refine wpHeldIn_take (i := 7) (v := ?_) (plain_of (by kernel_rfl)) rfl (by kernel_rfl) (fun _ _ _ h => h) (yieldsSoIn_of (by kernel_rfl) ?_ (fun _ => rfl)) q8 ?_; rotate_left; focus (intro wq hw; clear hw; go_simp; try (with_reducible rfl))
        refine wpHeldIn_done (by kernel_rfl) ?_ _
        go_simp
        have HO2 := Lib.hid (owni_below HO.out q8)
        have hb2' := hbb.trans (q8.mono hbb.size)
        clear HO KC q8 hb8 hI8
        go_wp2_with (at_builtin; refine wpList_pushi rfl (.tmp 29) (.tmp 31) rfl (k : Int) wb.heap.size _ _ _ rfl rfl HO2.out (by have := hb2'.size; omega) (by omega) ?_; intro v' w5 hown5 hb5; have HO5 := Lib.hid hown5; clear hown5)
        obtain ⟨g', hg'⟩ : ∃ g', gk = g' + 1 := ⟨gk - 1, by have := hk.out; omega⟩
        go_roundg g'
        case measure => omega
        case rel =>
          refine ⟨k + 1, by have := hk.out; simp only [Hid]; omega, by omega, by go_num, hb2'.trans hb5, ?_⟩
          rw [HS2.out, List.length_append, List.map_append]
          exact HO5.out
      · have hz1 : ((RK.length : Int) == 0) = false := by simpa using hz
        have HS2 : Hid (RT (k + 1) = L) := by unfold Hid; rw [HS.out, if_neg hz]
        replace hz := Lib.hid hz
        go_wp2_with fail
        refine (wpIn_wide (n := 4)).1 ?_
        refine wpIn_region_held (fun W' => Below wr.heap.size wr W') 30 hmo ?_
        refine wpHeldIn_take (i := 0) (v := ?_) (plain_of (by kernel_rfl)) rfl (by kernel_rfl) (fun _ _ _ h => h) (yieldsSoIn_of (by kernel_rfl) ?_ (fun _ => rfl)) hqq ?_; rotate_left; focus (intro wq hw; have kq := KC.out wq hw; clear hw; go_simp; try (with_reducible rfl))
        refine wpHeldIn_take (i := 1) (v := ?_) (plain_of (by kernel_rfl)) rfl (by kernel_rfl) (fun _ _ _ h => h) (yieldsSoIn_of (by kernel_rfl) ?_ (fun _ => rfl)) hqq ?_; rotate_left; focus (intro wq hw; clear hw; go_simp; try (with_reducible rfl))
        refine wpHeldIn_take (i := 2) (v := ?_) (plain_of (by kernel_rfl)) rfl (by kernel_rfl) (fun _ _ _ h => h) (yieldsSoIn_of (by kernel_rfl) ?_ (fun _ => rfl)) hqq ?_; rotate_left; focus (intro wq hw; clear hw; go_simp; try (with_reducible rfl))
        refine wpHeldIn_take (i := 3) (v := ?_) (plain_of (by kernel_rfl)) rfl (by kernel_rfl) (fun _ _ _ h => h) (yieldsSoIn_of (by kernel_rfl) ?_ (fun _ => rfl)) hqq ?_; rotate_left; focus (intro wq hw; clear hw; go_simp; try (with_reducible rfl))
        refine wpHeldIn_take (i := 4) (v := ?_) (plain_of (by kernel_rfl)) rfl (by kernel_rfl) (fun _ _ _ h => h) (yieldsSoIn_of (by kernel_rfl) ?_ (fun _ => rfl)) hqq ?_; rotate_left; focus (intro wq hw; have kq := KC.out wq hw; clear hw; go_simp; try (with_reducible rfl))
        refine wpHeldIn_one (i := 5) (by kernel_rfl) (by kernel_rfl) rfl (by kernel_rfl) (fun K2 hK2 => ?_)
        go_simp
        refine ⟨trivial, (callsIn_wide.2 (HR1.out _ (hBw.trans (hqq.mono hBw.size)))).mono ?_⟩
        rintro e w8 ⟨v8, rfl, hI8, hb8⟩
        obtain ⟨A8, c8, rfl⟩ := ints_form hI8.out
        have q8 := hqq.trans (hb8.mono hqq.size)
        refine hK2 _ _ q8 ?_
        refine wpHeldIn_take (i := 6) (v := ?_) (plain_of (by kernel_rfl)) rfl (by kernel_rfl) (fun _ _ _ h => h) (yieldsSoIn_of (by kernel_rfl) ?_ (fun _ => rfl)) q8 ?_; rotate_left; focus (intro wq hw; clear hw; go_simp; try (with_reducible rfl))
        refine wpHeldIn_take (i := 7) (v := ?_) (plain_of (by kernel_rfl)) rfl (by kernel_rfl) (fun _ _ _ h => h) (yieldsSoIn_of (by kernel_rfl) ?_ (fun _ => rfl)) q8 ?_; rotate_left; focus (intro wq hw; clear hw; go_simp; try (with_reducible rfl))
        refine wpHeldIn_done (by kernel_rfl) ?_ _
        go_simp
        have HO2 := Lib.hid (owni_below HO.out q8)
        have hb2' := hbb.trans (q8.mono hbb.size)
        clear HO KC q8 hb8 hI8
        go_wp2_with fail
        obtain ⟨g', hg'⟩ : ∃ g', gk = g' + 1 := ⟨gk - 1, by have := hk.out; omega⟩
        go_roundg g'
        case measure => omega
        case rel =>
          refine ⟨k + 1, by have := hk.out; simp only [Hid]; omega, by omega, by go_num, hb2', ?_⟩
          rw [HS2.out]
          exact HO2.out
    · have ek : k = ws.length := by omega
      rw [ek] at hown
      have hI := Lib.hid (Ints.of_own (hown.mono (Nat.zero_le _)))
      clear hown ek
      go_wp2_with fail
      go_returns
      exact ⟨_, rfl, hI, hBw⟩
set_option maxRecDepth 100000 in
set_option maxHeartbeats 4000000 in
theorem Stuck5_any (t : Wl.Trk) (ws : List Wl.Pt) (A Aw : Option Addr) (c cw : Nat) (hl : t.ps.length ≤ 1000000000) (hlw : ws.length ≤ 1000000000) (w : World) (hP : Prs w w.heap.size A t.ps) (hQ : Prs w w.heap.size Aw ws) :
    Calls Try.prog 21 #[.agg (trV t A c), .slice Aw ws.length cw] w (IntsEPost (Wl.stkL t ws) (Wl.chkV t ws) w) := by
  by_cases h0 : Wl.chkV t ws = 0
  · unfold Wl.stkL
    rw [if_pos h0, h0]
    exact Stuck5_yes t ws A Aw c cw hl hlw h0 w hP hQ
  · have hS : Wl.stkL t ws = [] := if_neg h0
    rw [hS]
    have HC : Hid (∀ W, Below w.heap.size w W → Calls Try.prog 15 #[.agg (trV t A c), .slice Aw ws.length cw] W (ErrPost (Wl.chkV t ws) W)) := fun W hW => Check5_any t ws A Aw c cw hl hlw W (prs_keep hP hW) (prs_keep hQ hW)
    have hne : (Wl.chkV t ws != 0) = true := by simpa using h0
    clear hP hQ hl hlw hS h0
    unfold ErrPost at HC
    generalize Wl.chkV t ws = CE at *
    obtain ⟨ps, cl, lo, hi⟩ := t
    unfold trV at *
    dsimp only at *
    go_enter Try.func21, Try.ntmps21
    go_wp2_with fail
    have bT := BoxS.new w 26 #[.slice A ps.length c, .int .i64 cl, .int .i64 lo, .int .i64 hi]
    have hBa : Below w.heap.size w (w.alloc (.cells #[.slice A ps.length c, .int .i64 cl, .int .i64 lo, .int .i64 hi] 26)) := by (repeat' (first | (with_reducible exact Below.refl _ _) | (with_reducible assumption) | (with_reducible refine Below.alloc ?_ ?_ _) | (with_reducible refine Below.drew ?_) | (with_reducible refine Below.setCell ?_ ?_ _) | go_size | (exact (by simp)) | omega))
    generalize World.alloc w _ = wa at *
    obtain ⟨s0, s1, s2, s3⟩ := boxS4 bT
    have lT := bT.lt
    try go_wp2_with fail
    refine (HC.out _ hBa).mono ?_
    rintro e wb ⟨rfl, hb⟩
    have hBb := hBa.trans (hb.mono hBa.size)
    go_wp2_with fail
    go_returns
    exact ⟨_, rfl, .inl ⟨rfl, rfl⟩, hBb⟩
set_option maxRecDepth 100000 in
set_option maxHeartbeats 8000000 in
theorem StuckW_yes (t : Wl.Trk) (ws : List Wl.Pt) (A Aw : Option Addr) (c cw : Nat) (hl : t.ps.length ≤ 1000000000) (hlw : ws.length ≤ 1000000000) (h0 : Wl.chkV t ws = 0) (w : World) (hP : Prs w w.heap.size A t.ps) (hQ : Prs w w.heap.size Aw ws) :
    Calls Try.prog 20 #[.agg (trV t A c), .slice Aw ws.length cw] w (IntsEPost (Wl.stkTo t ws ws.length) 0 w) := by
  obtain ⟨ht, hw⟩ := Wl.chk_yes.1 h0
  have hl8 := (Wl.pts_all hw).2
  have hl9 : t.ps.length ≤ 8 := (Wl.trk_parts ht).2.2.2
  have hmo : Try.prog.follows .mixedOrders = true := by kernel_rfl
  have HC : Hid (∀ W, Below w.heap.size w W → Calls Try.prog 14 #[.agg (trV t A c), .slice Aw ws.length cw] W (ErrPost (Wl.chkV t ws) W)) := fun W hW => CheckW_any t ws A Aw c cw hl hlw W (prs_keep hP hW) (prs_keep hQ hW)
  have HRE : Hid (∀ k, k < ws.length → ∀ W, Below w.heap.size w W → Calls Try.prog 55 #[.agg (mcV t A c none 0 0), .agg #[.int .i64 (Wl.ptAt ws k).1, .int .i64 (Wl.ptAt ws k).2]] W (IntsPost (Wl.reachL t (Wl.ptAt ws k)) W)) := fun k hk W hW => reachP_any t A none c 0 0 (Wl.ptAt ws k) (Wl.trk_sm ht) (Wl.pts_sm hw hk) (by omega) W (prs_keep hP hW)
  have HPW : Hid (∀ k, k < ws.length → ∀ W, Below w.heap.size w W → ∃ b off, Aw = some ⟨b, off, none⟩ ∧ b < w.heap.size ∧ W.cell? ⟨b, off + k * 2, none⟩ = some (.int .i64 (Wl.ptAt ws k).1) ∧ W.cell? ⟨b, off + k * 2 + 1, none⟩ = some (.int .i64 (Wl.ptAt ws k).2)) := fun k hk W hW => by
    obtain ⟨b, off, e, hb, hc⟩ := hQ (by omega)
    have hg : ws[k]? = some (Wl.ptAt ws k) := by unfold Wl.ptAt; rw [List.getElem?_eq_getElem hk]; rfl
    exact ⟨b, off, e, hb, (hW.cell (p := ⟨b, _, none⟩) hb).trans (hc k _ hg).1, (hW.cell (p := ⟨b, _, none⟩) hb).trans (hc k _ hg).2⟩
  have H0 : Hid (Wl.stkTo t ws 0 = []) := rfl
  have HS0 : Hid (∀ k : Nat, Wl.stkTo t ws (k + 1) = if (Wl.reachL t (Wl.ptAt ws k)).length = 0 then Wl.stkTo t ws k ++ [(k : Int)] else Wl.stkTo t ws k) := fun _ => rfl
  have HL : Hid (∀ k, (Wl.stkTo t ws k).length ≤ k) := Wl.stkTo_len t ws
  rw [h0] at HC
  clear hP hQ ht hw h0
  unfold IntsPost at HRE
  unfold ErrPost at HC
  generalize Wl.stkTo t ws = RT at *
  obtain ⟨RL, hRL⟩ : ∃ RL : Nat → List Int, ∀ k, Wl.reachL t (Wl.ptAt ws k) = RL k := ⟨fun k => Wl.reachL t (Wl.ptAt ws k), fun _ => rfl⟩
  simp only [hRL] at HRE HS0
  clear hRL
  obtain ⟨ps, cl, lo, hi⟩ := t
  unfold trV mcV at *
  dsimp only at *
  go_enter Try.func20, Try.ntmps20
  go_wp2_with fail
  have bT := BoxS.new w 26 #[.slice A ps.length c, .int .i64 cl, .int .i64 lo, .int .i64 hi]
  have hBa : Below w.heap.size w (w.alloc (.cells #[.slice A ps.length c, .int .i64 cl, .int .i64 lo, .int .i64 hi] 26)) := by (repeat' (first | (with_reducible exact Below.refl _ _) | (with_reducible assumption) | (with_reducible refine Below.alloc ?_ ?_ _) | (with_reducible refine Below.drew ?_) | (with_reducible refine Below.setCell ?_ ?_ _) | go_size | (exact (by simp)) | omega))
  generalize World.alloc w _ = wa at *
  obtain ⟨s0, s1, s2, s3⟩ := boxS4 bT
  have lT := bT.lt
  try go_wp2_with fail
  refine (HC.out _ hBa).mono ?_
  rintro e wb ⟨rfl, hb⟩
  have hBb := hBa.trans (hb.mono hBa.size)
  have bT0 := bT.below hb
  clear s0 s1 s2 s3 lT bT hBa hb HC
  go_wp2_with fail
  go_loopg [7, 18] ws.length (fun g x y wx => ∃ k : Nat, Hid (k + g = ws.length) ∧ (k : Int) ≤ ws.length ∧ y = .int .i64 (k : Int) ∧ Below wb.heap.size wb wx ∧ wx.ownsRow wb.heap.size 3 1 x (RT k).length ((RT k).map (Value.int .i64)))
  case atStart => exact ⟨0, by simp [Hid], by omega, rfl, Below.refl _ _, by rw [H0.out]; exact owni_nil _ _⟩
  case round =>
    obtain ⟨k, hk, hk1, rfl, hbb, hown⟩ := hrel
    have hk0 := Int.natCast_nonneg k
    have bT1 := bT0.below hbb
    have hBw := hBb.trans (hbb.mono hBb.size)
    by_cases hlt : (k : Int) < ws.length
    · have hkn : k < ws.length := by omega
      have HS := Lib.hid (HS0.out k)
      have hln := HL.out k
      have HO := Lib.hid hown
      have HR1 := Lib.hid (HRE.out k hkn)
      have hw1 : IntKind.i64.wrap ((k : Int) + 1) = (k : Int) + 1 := IntWalk.i64_in _ (by omega)
      have hsz := hbb.size
      have hqq : Below wr.heap.size wr wr.drew := (Below.refl _ _).drew
      obtain ⟨b, off, hAe, hbl, _, _⟩ := HPW.out k hkn _ hBw
      have KC : Hid (∀ W', Below wr.heap.size wr W' → W'.cell? ⟨b, off + k * 2, none⟩ = some (.int .i64 (Wl.ptAt ws k).1) ∧ W'.cell? ⟨b, off + k * 2 + 1, none⟩ = some (.int .i64 (Wl.ptAt ws k).2)) := fun W' h => by
        obtain ⟨b2, off2, e2, _, c1, c2⟩ := HPW.out k hkn _ (hBw.trans (h.mono hBw.size))
        rw [hAe] at e2
        obtain ⟨rfl, rfl⟩ : b = b2 ∧ off = off2 := by injection e2 with e2; injection e2 with e3 e4; exact ⟨e3, e4⟩
        exact ⟨c1, c2⟩
      clear hown HS0 HPW HRE
      subst hAe
      generalize (Wl.ptAt ws k).1 = px at *
      generalize (Wl.ptAt ws k).2 = py at *
      generalize RT k = L at *
      generalize RL k = RK at *
      have d1 : decide ((k : Int) < 0) = false := decide_eq_false (by omega)
      have d2 : decide ((ws.length : Int) ≤ (k : Int)) = false := decide_eq_false (by omega)
      have d4 : decide (ws.length ≤ k) = false := decide_eq_false (by omega)
      have hbr : b < wr.heap.size := by have := hBw.size; omega
      by_cases hz : RK.length = 0
      · have hz1 : ((RK.length : Int) == 0) = true := by simp [hz]
        have HS2 : Hid (RT (k + 1) = L ++ [(k : Int)]) := by unfold Hid; rw [HS.out, if_pos hz]
        replace hz := Lib.hid hz
        have s0 := (boxS4 bT1).1
        have s1 := (boxS4 bT1).2.1
        have s2 := (boxS4 bT1).2.2.1
        have s3 := (boxS4 bT1).2.2.2
        have lT := bT1.lt
        obtain ⟨z0, z1⟩ := KC.out wr (Below.refl _ _)
        go_wp2_with fail
        have q1 : Below wr.heap.size wr (wr.alloc (.cells #[.int .i64 px, .int .i64 py] 28)) := (Below.refl _ _).alloc (Nat.le_refl _) _
        refine (HR1.out _ (hBw.trans (q1.mono hBw.size))).mono ?_
        rintro e w8 ⟨v8, rfl, hI8, hb8⟩
        obtain ⟨A8, c8, rfl⟩ := ints_form hI8.out
        have q8 := q1.trans (hb8.mono q1.size)
        clear s0 s1 s2 s3 lT z0 z1 q1
        have HO2 := Lib.hid (owni_below HO.out q8)
        have hb2' := hbb.trans (q8.mono hbb.size)
        clear HO KC q8 hb8 hI8
        go_wp2_with (at_builtin; refine wpList_pushi rfl (.tmp 29) (.tmp 31) rfl (k : Int) wb.heap.size _ _ _ rfl rfl HO2.out (by have := hb2'.size; omega) (by omega) ?_; intro v' w5 hown5 hb5; have HO5 := Lib.hid hown5; clear hown5)
        obtain ⟨g', hg'⟩ : ∃ g', gk = g' + 1 := ⟨gk - 1, by have := hk.out; omega⟩
        go_roundg g'
        case measure => omega
        case rel =>
          refine ⟨k + 1, by have := hk.out; simp only [Hid]; omega, by omega, by go_num, hb2'.trans hb5, ?_⟩
          rw [HS2.out, List.length_append, List.map_append]
          exact HO5.out
      · have hz1 : ((RK.length : Int) == 0) = false := by simpa using hz
        have HS2 : Hid (RT (k + 1) = L) := by unfold Hid; rw [HS.out, if_neg hz]
        replace hz := Lib.hid hz
        have s0 := (boxS4 bT1).1
        have s1 := (boxS4 bT1).2.1
        have s2 := (boxS4 bT1).2.2.1
        have s3 := (boxS4 bT1).2.2.2
        have lT := bT1.lt
        obtain ⟨z0, z1⟩ := KC.out wr (Below.refl _ _)
        go_wp2_with fail
        have q1 : Below wr.heap.size wr (wr.alloc (.cells #[.int .i64 px, .int .i64 py] 28)) := (Below.refl _ _).alloc (Nat.le_refl _) _
        refine (HR1.out _ (hBw.trans (q1.mono hBw.size))).mono ?_
        rintro e w8 ⟨v8, rfl, hI8, hb8⟩
        obtain ⟨A8, c8, rfl⟩ := ints_form hI8.out
        have q8 := q1.trans (hb8.mono q1.size)
        clear s0 s1 s2 s3 lT z0 z1 q1
        have HO2 := Lib.hid (owni_below HO.out q8)
        have hb2' := hbb.trans (q8.mono hbb.size)
        clear HO KC q8 hb8 hI8
        go_wp2_with fail
        obtain ⟨g', hg'⟩ : ∃ g', gk = g' + 1 := ⟨gk - 1, by have := hk.out; omega⟩
        go_roundg g'
        case measure => omega
        case rel =>
          refine ⟨k + 1, by have := hk.out; simp only [Hid]; omega, by omega, by go_num, hb2', ?_⟩
          rw [HS2.out]
          exact HO2.out
    · have ek : k = ws.length := by omega
      rw [ek] at hown
      have hI := Lib.hid (Ints.of_own (hown.mono (Nat.zero_le _)))
      clear hown ek
      go_wp2_with fail
      go_returns
      exact ⟨_, rfl, hI, hBw⟩
set_option maxRecDepth 100000 in
set_option maxHeartbeats 4000000 in
theorem StuckW_any (t : Wl.Trk) (ws : List Wl.Pt) (A Aw : Option Addr) (c cw : Nat) (hl : t.ps.length ≤ 1000000000) (hlw : ws.length ≤ 1000000000) (w : World) (hP : Prs w w.heap.size A t.ps) (hQ : Prs w w.heap.size Aw ws) :
    Calls Try.prog 20 #[.agg (trV t A c), .slice Aw ws.length cw] w (IntsEPost (Wl.stkL t ws) (Wl.chkV t ws) w) := by
  by_cases h0 : Wl.chkV t ws = 0
  · unfold Wl.stkL
    rw [if_pos h0, h0]
    exact StuckW_yes t ws A Aw c cw hl hlw h0 w hP hQ
  · have hS : Wl.stkL t ws = [] := if_neg h0
    rw [hS]
    have HC : Hid (∀ W, Below w.heap.size w W → Calls Try.prog 14 #[.agg (trV t A c), .slice Aw ws.length cw] W (ErrPost (Wl.chkV t ws) W)) := fun W hW => CheckW_any t ws A Aw c cw hl hlw W (prs_keep hP hW) (prs_keep hQ hW)
    have hne : (Wl.chkV t ws != 0) = true := by simpa using h0
    clear hP hQ hl hlw hS h0
    unfold ErrPost at HC
    generalize Wl.chkV t ws = CE at *
    obtain ⟨ps, cl, lo, hi⟩ := t
    unfold trV at *
    dsimp only at *
    go_enter Try.func20, Try.ntmps20
    go_wp2_with fail
    have bT := BoxS.new w 26 #[.slice A ps.length c, .int .i64 cl, .int .i64 lo, .int .i64 hi]
    have hBa : Below w.heap.size w (w.alloc (.cells #[.slice A ps.length c, .int .i64 cl, .int .i64 lo, .int .i64 hi] 26)) := by (repeat' (first | (with_reducible exact Below.refl _ _) | (with_reducible assumption) | (with_reducible refine Below.alloc ?_ ?_ _) | (with_reducible refine Below.drew ?_) | (with_reducible refine Below.setCell ?_ ?_ _) | go_size | (exact (by simp)) | omega))
    generalize World.alloc w _ = wa at *
    obtain ⟨s0, s1, s2, s3⟩ := boxS4 bT
    have lT := bT.lt
    try go_wp2_with fail
    refine (HC.out _ hBa).mono ?_
    rintro e wb ⟨rfl, hb⟩
    have hBb := hBa.trans (hb.mono hBa.size)
    go_wp2_with fail
    go_returns
    exact ⟨_, rfl, .inl ⟨rfl, rfl⟩, hBb⟩
end Go.Proofs.Ytmjcdggmofohcaa
