/- Walks: all places from which the arm reaches a point, by the program. -/
import Derived.Test.YtmjcdggmofohcaaWlQ
import Derived.Test.YtmjcdggmofohcaaWlE
import Derived.Deep.Onto
namespace Go.Proofs.Ytmjcdggmofohcaa
open Go.RowKit
namespace Wl
def reTo (t : Trk) (a : Pt) : Nat → List Int
  | 0 => []
  | k + 1 => if reachB t (k : Int) a then reTo t a k ++ [(k : Int)] else reTo t a k
theorem reTo_eq (t : Trk) (a : Pt) : ∀ k, reTo t a k = ((List.range k).filter (fun p : Nat => reachB t (p : Int) a)).map (fun p : Nat => (p : Int))
  | 0 => rfl
  | k + 1 => by
    rw [List.range_succ, List.filter_append, List.map_append, ← reTo_eq t a k]
    show (if reachB t (k : Int) a then reTo t a k ++ [(k : Int)] else reTo t a k) = _
    cases h : reachB t (k : Int) a <;> simp [h]
theorem reTo_len (t : Trk) (a : Pt) : ∀ k, (reTo t a k).length ≤ k
  | 0 => Nat.le_refl _
  | k + 1 => by
    have := reTo_len t a k
    show (if reachB t (k : Int) a then reTo t a k ++ [(k : Int)] else reTo t a k).length ≤ k + 1
    split
    · simp; omega
    · omega
end Wl
def OwnIPost (L : List Int) (w : World) (e : Ending) (w' : World) : Prop := ∃ v : Value, e = .returned v ∧ Hid (w'.ownsRow w.heap.size 3 1 v L.length (L.map (Value.int .i64))) ∧ Below w.heap.size w w'
set_option maxRecDepth 100000 in
set_option maxHeartbeats 8000000 in
theorem reachO_any (t : Wl.Trk) (A Aw : Option Addr) (c m cw : Nat) (a : Wl.Pt) (hs : ∀ k, k < t.ps.length → Geo.sm (Wl.ptAt t.ps k)) (ha : Geo.sm a) (hl : t.ps.length ≤ 1000) (w : World) (hP : Prs w w.heap.size A t.ps) :
    Calls Try.prog 55 #[.agg (mcV t A c Aw m cw), .agg #[.int .i64 a.1, .int .i64 a.2]] w (OwnIPost (Wl.reachL t a) w) := by
  have HRE : Hid (∀ (p : Nat), p < t.ps.length → ∀ W, Below w.heap.size w W → Calls Try.prog 83 #[.agg (mcV t A c Aw m cw), .int .i64 (p : Nat), .agg #[.int .i64 a.1, .int .i64 a.2]] W fun e w' => e = .returned (.bool (Wl.reachB t p a)) ∧ Below W.heap.size W w') := fun p hp W hW => reachesW_any t A c Aw m cw p a hp (hs p hp) ha W (prs_keep hP hW) (by omega)
  have H0 : Hid (Wl.reTo t a 0 = []) := rfl
  have HS0 : Hid (∀ k : Nat, Wl.reTo t a (k + 1) = if Wl.reachB t (k : Int) a then Wl.reTo t a k ++ [(k : Int)] else Wl.reTo t a k) := fun _ => rfl
  have HE : Hid (Wl.reachL t a = Wl.reTo t a t.ps.length) := (Wl.reTo_eq t a _).symm
  have HL : Hid (∀ k, (Wl.reTo t a k).length ≤ k) := Wl.reTo_len t a
  generalize Wl.reTo t a = RT at *
  generalize Wl.reachL t a = RL at *
  obtain ⟨ps, cl, lo, hi⟩ := t
  obtain ⟨a1, a2⟩ := a
  unfold mcV at *
  dsimp only at *
  generalize hrb : (fun p : Int => Wl.reachB ⟨ps, cl, lo, hi⟩ p (a1, a2)) = RB at *
  have HRB : ∀ p : Int, Wl.reachB ⟨ps, cl, lo, hi⟩ p (a1, a2) = RB p := fun p => by rw [← hrb]
  simp only [HRB] at HRE HS0
  clear hP hs ha hrb HRB
  go_enter Try.func55, Try.ntmps55
  go_wp2_with fail
  have bM := (BoxS.new w 70 #[.slice A ps.length c, .int .i64 cl, .int .i64 lo, .int .i64 hi, .slice Aw m cw]).alloc (.cells #[.int .i64 a1, .int .i64 a2] 28)
  have bP := BoxS.new (w.alloc (.cells #[.slice A ps.length c, .int .i64 cl, .int .i64 lo, .int .i64 hi, .slice Aw m cw] 70)) 28 #[.int .i64 a1, .int .i64 a2]
  rw [World.size_alloc] at bP
  have hBb : Below w.heap.size w ((w.alloc (.cells #[.slice A ps.length c, .int .i64 cl, .int .i64 lo, .int .i64 hi, .slice Aw m cw] 70)).alloc (.cells #[.int .i64 a1, .int .i64 a2] 28)) := by (repeat' (first | (with_reducible exact Below.refl _ _) | (with_reducible assumption) | (with_reducible refine Below.alloc ?_ ?_ _) | (with_reducible refine Below.drew ?_) | (with_reducible refine Below.setCell ?_ ?_ _) | go_size | (exact (by simp)) | omega))
  generalize World.alloc (World.alloc w _) _ = wb at *
  have c0 := bM.cell 0 rfl
  have lM := bM.lt
  try go_wp2_with fail
  clear c0 lM
  go_loopg [5, 11] ps.length (fun g x5 x11 wx => ∃ k : Nat, Hid (k + g = ps.length) ∧ (k : Int) ≤ ps.length ∧ x11 = .int .i64 (k : Int) ∧ Below wb.heap.size wb wx ∧ wx.ownsRow wb.heap.size 3 1 x5 (RT k).length ((RT k).map (Value.int .i64)))
  case atStart => exact ⟨0, by simp [Hid], by omega, rfl, Below.refl _ _, by rw [H0.out]; exact owni_nil _ _⟩
  case round =>
    obtain ⟨k, hk, hk1, rfl, hbb, hown⟩ := hrel
    have hk0 := Int.natCast_nonneg k
    have bM1 := bM.below hbb
    have bP1 := bP.below hbb
    by_cases hlt : (k : Int) < ps.length
    · have hkn : k < ps.length := by omega
      have HS := Lib.hid (HS0.out k)
      have hln := HL.out k
      have HO := Lib.hid hown
      have HR1 := Lib.hid (fun W (hW : Below wr.heap.size wr W) => HRE.out k hkn W (hBb.trans (hbb.mono hBb.size |>.trans (hW.mono (Nat.le_trans hBb.size hbb.size)))))
      have hw1 : IntKind.i64.wrap ((k : Int) + 1) = (k : Int) + 1 := IntWalk.i64_in _ (by omega)
      have hsz := hbb.size
      clear hown HS0
      generalize RT k = L at *
      have s0 := bM1.cell 0 rfl
      have s1 := bM1.cell 1 rfl
      have s2 := bM1.cell 2 rfl
      have s3 := bM1.cell 3 rfl
      have s4 := bM1.cell 4 rfl
      have p0 := bP1.cell 0 rfl
      have p1 := bP1.cell 1 rfl
      have lM := bM1.lt
      have lP := bP1.lt
      cases hb : RB k with
      | true =>
        rw [hb] at HR1
        have HS2 : Hid (RT (k + 1) = L ++ [(k : Int)]) := by unfold Hid; rw [HS.out, if_pos hb]
        clear hb
        go_wp2_with fail
        refine (HR1.out _ (Below.refl _ _)).mono ?_
        rintro e w2 ⟨rfl, hb2⟩
        have HO2 := Lib.hid (owni_below HO.out hb2)
        have hb2' := hbb.trans (hb2.mono hbb.size)
        clear s0 s1 s2 s3 s4 p0 p1 lM lP HO
        go_wp2_with (at_builtin; refine wpList_pushi rfl (.tmp 18) (.tmp 20) rfl (k : Int) wb.heap.size _ _ _ rfl rfl HO2.out (by have := hb2'.size; omega) (by omega) ?_; intro v' w5 hown5 hb5; have HO5 := Lib.hid hown5; clear hown5)
        obtain ⟨g', hg'⟩ : ∃ g', gk = g' + 1 := ⟨gk - 1, by have := hk.out; omega⟩
        go_roundg g'
        case measure => omega
        case rel =>
          refine ⟨k + 1, by have := hk.out; simp only [Hid]; omega, by omega, by go_num, hb2'.trans hb5, ?_⟩
          rw [HS2.out, List.length_append, List.map_append]
          exact HO5.out
      | false =>
        rw [hb] at HR1
        have HS2 : Hid (RT (k + 1) = L) := by unfold Hid; rw [HS.out, hb]; rfl
        clear hb
        go_wp2_with fail
        refine (HR1.out _ (Below.refl _ _)).mono ?_
        rintro e w2 ⟨rfl, hb2⟩
        have HO2 := Lib.hid (owni_below HO.out hb2)
        have hb2' := hbb.trans (hb2.mono hbb.size)
        clear s0 s1 s2 s3 s4 p0 p1 lM lP HO
        go_wp2_with fail
        obtain ⟨g', hg'⟩ : ∃ g', gk = g' + 1 := ⟨gk - 1, by have := hk.out; omega⟩
        go_roundg g'
        case measure => omega
        case rel =>
          refine ⟨k + 1, by have := hk.out; simp only [Hid]; omega, by omega, by go_num, hb2', ?_⟩
          rw [HS2.out]
          exact HO2.out
    · have ek : k = ps.length := by omega
      rw [ek, ← HE.out] at hown
      have hI := Lib.hid (hown.mono hBb.size)
      have hBr := hBb.trans (hbb.mono hBb.size)
      clear hown ek
      go_wp2_with fail
      go_returns
      exact ⟨_, rfl, hI, hBr⟩
theorem reachP_any (t : Wl.Trk) (A Aw : Option Addr) (c m cw : Nat) (a : Wl.Pt) (hs : ∀ k, k < t.ps.length → Geo.sm (Wl.ptAt t.ps k)) (ha : Geo.sm a) (hl : t.ps.length ≤ 1000) (w : World) (hP : Prs w w.heap.size A t.ps) :
    Calls Try.prog 55 #[.agg (mcV t A c Aw m cw), .agg #[.int .i64 a.1, .int .i64 a.2]] w (IntsPost (Wl.reachL t a) w) :=
  (reachO_any t A Aw c m cw a hs ha hl w hP).mono fun e w' h => by
    obtain ⟨v, rfl, ho, hb⟩ := h
    exact ⟨v, rfl, Ints.of_own ho.out, hb⟩
namespace Wl
def reachRL (t : Trk) (a : Pt) : List Int := if trkB t then (if Geo.ptB a then reachL t a else []) else []
def reachRE (t : Trk) (a : Pt) : Int := if trkB t then (if Geo.ptB a then 0 else 1) else 50
theorem ptB_sm {a : Pt} (h : Geo.ptB a = true) : Geo.sm a := by
  unfold Geo.ptB inB at h
  simp only [Bool.and_eq_true, decide_eq_true_eq] at h
  unfold Geo.sm
  omega
theorem trk_sm {t : Trk} (h : trkB t = true) : ∀ k, k < t.ps.length → Geo.sm (ptAt t.ps k) := fun k hk => pts_sm (trk_parts h).1 hk
end Wl
end Go.Proofs.Ytmjcdggmofohcaa
