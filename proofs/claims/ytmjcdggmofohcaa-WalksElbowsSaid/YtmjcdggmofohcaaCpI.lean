/- Walks: copies of rows of numbers; whether two rows of numbers are the same, also empty ones of which nothing is known. -/
import Derived.Test.YtmjcdggmofohcaaSameI
import Derived.Test.YtmjcdggmofohcaaMovC
namespace Go.Proofs.Ytmjcdggmofohcaa
open Go.RowKit
/-- A slice of numbers of which nothing is known where it is empty. -/
def GIn (w : World) (B : Nat) (A : Option Addr) (c : Nat) (xs : List Int) : Prop := 0 < xs.length → Ints w B (.slice A xs.length c) xs
theorem GIn.keep {w w' : World} {B : Nat} {A : Option Addr} {c : Nat} {xs : List Int} (h : GIn w B A c xs) (hb : Below B w w') : GIn w' B A c xs := fun h0 => (h h0).keep hb
theorem GIn.wider {w : World} {B B' : Nat} {A : Option Addr} {c : Nat} {xs : List Int} (h : GIn w B A c xs) (hB : B ≤ B') : GIn w B' A c xs := fun h0 => (h h0).more hB
theorem GIn.of {w : World} {B : Nat} {A : Option Addr} {c : Nat} {xs : List Int} (h : Ints w B (.slice A xs.length c) xs) : GIn w B A c xs := fun _ => h
theorem GIn.reads {w : World} {B : Nat} {A : Option Addr} {c : Nat} {xs : List Int} (h : GIn w B A c xs) : Reads w B 1 A xs.length (xs.map (Value.int .i64)) := by
  refine ⟨by simp, fun h0 => ?_⟩
  rcases h h0 with ⟨_, e⟩ | ⟨b, off, cap, e, hb, hc⟩
  · subst e; simp at h0
  · injection e with e1
    subst e1
    refine ⟨_, rfl, hb, fun j u hu => ?_⟩
    rw [List.getElem?_map] at hu
    cases hx : xs[j]? with
    | none => rw [hx] at hu; cases hu
    | some x =>
      rw [hx] at hu
      obtain rfl : Value.int .i64 x = u := by simpa using hu
      have := hc j x hx
      rw [← this]
      unfold Addr.add
      split
      · rename_i h0; have : j = 0 := by simpa using h0
        subst this; rfl
      · rfl
/-- 'append([]int{}, l...)': a copy in new memory. -/
theorem wpList_copyi {ops : Array Oper} {rest : List Oper} {o : Oper} {a : Act} {Q : Exit → Act → World → Prop} {wr : World} (hgd : o.guard = none) (s y : Operand)
    (ho : o.op = .call { callee := .builtin .append, args := #[s, y], argTypes := #[35, 35] }) (A : Option Addr) (c : Nat) (gs : List Int) (g : Nat) (hsz : g = wr.heap.size)
    (hs : a.eval s = .slice (some ⟨g, 0, none⟩) 0 0) (hx : a.eval y = .slice A gs.length c) (hg : GIn wr wr.heap.size A c gs) (hn : gs.length ≤ 1000000000)
    (h : ∀ A' c' w', w'.ownsRow wr.heap.size 3 1 (.slice A' gs.length c') gs.length (gs.map (Value.int .i64)) → Below wr.heap.size wr w' → wpList Try.prog ops Q rest (a.put o.dst (.slice A' gs.length c')) w') :
    wpList Try.prog ops Q (o :: rest) a (wr.alloc (.cells #[] 3)) := by
  subst hsz
  obtain ⟨i0, hi0, hz0, hz1, hz2⟩ := info_parts1w int_info3
  have hb0 : Below wr.heap.size wr (wr.alloc (.cells #[] 3)) := (Below.refl _ _).alloc (Nat.le_refl _) _
  refine wpList_append_any _ hgd s y 35 ho wr.heap.size 3 i0 (.int .i64 0) 1 8 Try.underlying35 hi0 hz0 hz1 hz2 rfl (by decide) (.slice (some ⟨wr.heap.size, 0, none⟩) 0 0) 0 [] hs
    (World.ownsRow_made wr #[] 0 (Nat.le_refl _) (by simp [maxLen]) rfl) wr.heap.size A gs.length c (gs.map (Value.int .i64)) hx (hg.keep hb0).reads (fun u hu => by obtain ⟨x, _, rfl⟩ := List.mem_map.1 hu; rfl) (by simp only [maxLen]; omega) (by omega) (by simp) ?_
  intro v' w' hown hgr hat
  rw [Nat.zero_add, List.nil_append] at hown
  obtain ⟨A', c', rfl⟩ := owni_form hown
  exact h A' c' w' hown (hb0.grown hgr (by simp) (fun j hj => by
    have : j = wr.heap.size := by simpa [Value.ownBlock] using hj.symm
    omega))
set_option maxHeartbeats 1000000 in
theorem SameInts_nil (A A' : Option Addr) (c c' : Nat) (w : World) :
    Calls Try.prog 22 #[.slice A 0 c, .slice A' 0 c'] w fun e w' => e = .returned (.bool true) ∧ Below w.heap.size w w' := by
  go_enter Try.func22, Try.ntmps22
  go_wp2_with fail
  go_loopw [5] (fun x wr => x = .int .i64 0 ∧ Below w.heap.size w wr) (fun x _ => 0)
  case atStart => exact ⟨rfl, Below.refl _ _⟩
  case round =>
    obtain ⟨rfl, hB⟩ := hrel
    go_wp2_with fail
    go_returns
    exact ⟨rfl, hB⟩
theorem SameInts_all (A A' : Option Addr) (c c' : Nat) (xs : List Int) (w : World) (hx : GIn w w.heap.size A c xs) (hy : GIn w w.heap.size A' c' xs) (hl : xs.length ≤ 1000000000) :
    Calls Try.prog 22 #[.slice A xs.length c, .slice A' xs.length c'] w fun e w' => e = .returned (.bool true) ∧ Below w.heap.size w w' := by
  match xs, hx, hy, hl with
  | [], _, _, _ => exact SameInts_nil A A' c c' w
  | x :: xs, hx, hy, hl =>
    have := SameInts_any _ _ (x :: xs) (x :: xs) w (hx (by simp)) (hy (by simp)) hl hl
    rw [decide_eq_true rfl] at this
    exact this
end Go.Proofs.Ytmjcdggmofohcaa
