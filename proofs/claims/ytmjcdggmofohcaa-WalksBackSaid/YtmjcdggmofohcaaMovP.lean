/- Walks: a track and a walk that are moved (P5.16), the plain side. -/
import Derived.Test.YtmjcdggmofohcaaWlR
namespace Go.Proofs.Ytmjcdggmofohcaa
namespace Wl
/-- The first points moved, the others as they are. -/
def mixTo (ps : List Pt) (v : Pt) : Nat → List Pt
  | 0 => ps
  | k + 1 => (mixTo ps v k).set k ((ptAt ps k).1 + v.1, (ptAt ps k).2 + v.2)
def mvP (ps : List Pt) (v : Pt) : List Pt := mixTo ps v ps.length
theorem mixTo_len (ps : List Pt) (v : Pt) : ∀ k, (mixTo ps v k).length = ps.length
  | 0 => rfl
  | k + 1 => by
    show ((mixTo ps v k).set k _).length = _
    rw [List.length_set, mixTo_len ps v k]
theorem mvP_len (ps : List Pt) (v : Pt) : (mvP ps v).length = ps.length := mixTo_len ps v _
theorem mixTo_at (ps : List Pt) (v : Pt) : ∀ (k j : Nat), j < ps.length → ptAt (mixTo ps v k) j = if j < k then ((ptAt ps j).1 + v.1, (ptAt ps j).2 + v.2) else ptAt ps j
  | 0, j, _ => by rw [if_neg (by omega)]; rfl
  | k + 1, j, hj => by
    have ih := mixTo_at ps v k j hj
    have hl := mixTo_len ps v k
    show ptAt ((mixTo ps v k).set k _) j = _
    unfold ptAt at ih ⊢
    by_cases e : k = j
    · subst e
      rw [List.getElem?_set_self (by omega), if_pos (by omega)]
      rfl
    · rw [List.getElem?_set_ne e, ih]
      by_cases h : j < k
      · rw [if_pos h, if_pos (by omega)]
      · rw [if_neg h, if_neg (by omega)]
theorem mvP_at (ps : List Pt) (v : Pt) {j : Nat} (hj : j < ps.length) : ptAt (mvP ps v) j = ((ptAt ps j).1 + v.1, (ptAt ps j).2 + v.2) := by
  unfold mvP
  rw [mixTo_at ps v _ j hj, if_pos hj]
def mvT (t : Trk) (v : Pt) : Trk := ⟨mvP t.ps v, t.cl, t.lo, t.hi⟩
theorem cr_mv (a b v : Pt) : cr (a.1 + v.1, a.2 + v.2) (b.1 + v.1, b.2 + v.2) = cr a b + cr v b - cr v a := by
  unfold cr
  simp only [Int.add_mul, Int.mul_add]
  rw [Int.mul_comm v.1 v.2, Int.mul_comm v.1 a.2, Int.mul_comm v.2 a.1]
  omega
theorem dblTo_mv (ps : List Pt) (v : Pt) : ∀ k, k ≤ ps.length → dblTo (mvP ps v) k = dblTo ps k + cr v (ptAt ps (k % ps.length)) - cr v (ptAt ps 0)
  | 0, _ => by
    rw [Nat.zero_mod]
    show (0 : Int) = 0 + _ - _
    omega
  | k + 1, h => by
    have h0 : 0 < ps.length := by omega
    have ih := dblTo_mv ps v k (by omega)
    rw [Nat.mod_eq_of_lt (show k < ps.length by omega)] at ih
    show dblTo (mvP ps v) k + cr (ptAt (mvP ps v) k) (ptAt (mvP ps v) ((k + 1) % (mvP ps v).length)) = dblTo ps k + cr (ptAt ps k) (ptAt ps ((k + 1) % ps.length)) + _ - _
    rw [mvP_len, mvP_at ps v (by omega), mvP_at ps v (Nat.mod_lt _ h0), cr_mv, ih]
    omega
theorem dbl_mv (ps : List Pt) (v : Pt) : dbl (mvP ps v) = dbl ps := by
  unfold dbl
  rw [mvP_len, dblTo_mv ps v _ (Nat.le_refl _), Nat.mod_self]
  omega
theorem quad_mv (a b c d v : Pt) : quad (a.1 + v.1, a.2 + v.2) (b.1 + v.1, b.2 + v.2) (c.1 + v.1, c.2 + v.2) (d.1 + v.1, d.2 + v.2) = quad a b c d := by
  unfold quad
  rw [cr_mv, cr_mv, cr_mv, cr_mv]
  omega
theorem reachL_mv (t : Trk) (a v : Pt) : reachL (mvT t v) (a.1 + v.1, a.2 + v.2) = reachL t a := by
  unfold reachL
  have hl : (mvT t v).ps.length = t.ps.length := mvP_len _ _
  rw [hl]
  congr 1
  refine List.filter_congr fun p hp => ?_
  have hp := List.mem_range.1 hp
  unfold reachB sqV
  rw [Int.toNat_natCast]
  have hat : ptAt (mvT t v).ps p = ((ptAt t.ps p).1 + v.1, (ptAt t.ps p).2 + v.2) := mvP_at t.ps v hp
  have e1 : a.1 + v.1 - ((ptAt t.ps p).1 + v.1) = a.1 - (ptAt t.ps p).1 := by omega
  have e2 : a.2 + v.2 - ((ptAt t.ps p).2 + v.2) = a.2 - (ptAt t.ps p).2 := by omega
  simp only [hat, e1, e2]
  rfl
theorem nearB_mv (t : Trk) (v : Pt) (a b : Int) : nearB (mvT t v) a b = nearB t a b := by
  have hl : (mvT t v).ps.length = t.ps.length := mvP_len _ _
  unfold nearB stepV
  rw [hl]
  rfl
theorem goL_mv (t : Trk) (ws : List Pt) (v : Pt) : ∀ (k : Nat) (pl : List Int), pl.length + k = ws.length → goL (mvT t v) (mvP ws v) k pl = goL t ws k pl
  | 0, pl, _ => by
    show (if nearB (mvT t v) (lastV pl) (esAt pl 0) then [pl] else []) = if nearB t (lastV pl) (esAt pl 0) then [pl] else []
    rw [nearB_mv]
  | k + 1, pl, h => by
    show ((reachL (mvT t v) (ptAt (mvP ws v) pl.length)).flatMap fun p => if 0 < pl.length ∧ nearB (mvT t v) (lastV pl) p = false then [] else goL (mvT t v) (mvP ws v) k (pl ++ [p])) = (reachL t (ptAt ws pl.length)).flatMap fun p => if 0 < pl.length ∧ nearB t (lastV pl) p = false then [] else goL t ws k (pl ++ [p])
    rw [mvP_at ws v (by omega), reachL_mv]
    congr 1
    funext p
    rw [nearB_mv, goL_mv t ws v k (pl ++ [p]) (by simp; omega)]
theorem elbsL_mv (t : Trk) (ws : List Pt) (v : Pt) : elbsL (mvT t v) (mvP ws v) = elbsL t ws := by
  unfold elbsL
  rw [mvP_len, goL_mv t ws v _ _ (by simp)]
theorem swTo_mv {t : Trk} {ws : List Pt} {es : List Int} (v : Pt) (h0 : 0 < ws.length) (he : elbB t es) : ∀ k, swTo (mvT t v) (mvP ws v) es k = swTo t ws es k
  | 0 => rfl
  | k + 1 => by
    have i0 := he.1 k
    have i1 := he.1 (k + 1)
    show swTo (mvT t v) (mvP ws v) es k + quad (ptAt (mvP t.ps v) (eAt es k).toNat) (ptAt (mvP ws v) (k % (mvP ws v).length)) (ptAt (mvP ws v) ((k + 1) % (mvP ws v).length)) (ptAt (mvP t.ps v) (eAt es (k + 1)).toNat) = swTo t ws es k + quad (ptAt t.ps (eAt es k).toNat) (ptAt ws (k % ws.length)) (ptAt ws ((k + 1) % ws.length)) (ptAt t.ps (eAt es (k + 1)).toNat)
    rw [swTo_mv v h0 he k, mvP_len, mvP_at ws v (Nat.mod_lt _ h0), mvP_at ws v (Nat.mod_lt _ h0), mvP_at t.ps v (by omega), mvP_at t.ps v (by omega), quad_mv]
theorem rollsL_mv {t : Trk} {ws : List Pt} (v : Pt) (h0 : 0 < ws.length) : rollsL (mvT t v) (mvP ws v) = rollsL t ws := by
  unfold rollsL
  rw [elbsL_mv]
  congr 1
  refine List.map_congr_left fun es he => ?_
  have hv := (mem_elbsL h0).1 he
  unfold sweepV
  exact swTo_mv v h0 (elbV_B h0 hv) _
end Wl
end Go.Proofs.Ytmjcdggmofohcaa
