/-
  Plain mathematics of layer 4's sets (no program text is spoken of here): the document's own answers as functions on lists of numbers; sets that rise are told by what is in them.
-/
import Derived.Laws.BitsAllLaws
namespace Go.Proofs.Ytkbchpbdpkbnjaa.Ids

def has (xs : List Int) (x : Int) : Bool := xs.contains x
theorem has_nil (x : Int) : has [] x = false := rfl
theorem has_cons (y : Int) (xs : List Int) (x : Int) : has (y :: xs) x = ((x == y) || has xs x) := List.contains_cons
theorem has_drop (xs : List Int) (x : Int) (k : Nat) (h : k < xs.length) : has (xs.drop k) x = ((x == xs[k]) || has (xs.drop (k + 1)) x) := by
  rw [List.drop_eq_getElem_cons h, has_cons]
theorem has_iff (xs : List Int) (x : Int) : has xs x = true ↔ x ∈ xs := by simp [has]

def same (xs ys : List Int) : Bool := xs == ys
theorem same_drop (xs ys : List Int) (k : Nat) (h : k < xs.length) (h2 : k < ys.length) : same (xs.drop k) (ys.drop k) = ((xs[k] == ys[k]) && same (xs.drop (k + 1)) (ys.drop (k + 1))) := by
  rw [List.drop_eq_getElem_cons h, List.drop_eq_getElem_cons h2]; rfl
theorem same_iff (xs ys : List Int) : same xs ys = true ↔ xs = ys := by simp [same]
theorem same_len {xs ys : List Int} (h : xs.length ≠ ys.length) : same xs ys = false := by
  rw [Bool.eq_false_iff]; intro e; exact h (by rw [(same_iff xs ys).1 e])
theorem same_refl (xs : List Int) : same xs xs = true := (same_iff xs xs).2 rfl

def cmp : List Int → List Int → Int
  | [], [] => 0
  | [], _ :: _ => -1
  | _ :: _, [] => 1
  | x :: xs, y :: ys => if x < y then -1 else if y < x then 1 else cmp xs ys
theorem cmp_drop (xs ys : List Int) (k : Nat) (h : k < xs.length) (h2 : k < ys.length) : cmp (xs.drop k) (ys.drop k) = if xs[k] < ys[k] then -1 else if ys[k] < xs[k] then 1 else cmp (xs.drop (k + 1)) (ys.drop (k + 1)) := by
  rw [List.drop_eq_getElem_cons h, List.drop_eq_getElem_cons h2]; rfl
theorem cmp_swap : ∀ xs ys : List Int, cmp ys xs = -cmp xs ys
  | [], [] => rfl
  | [], _ :: _ => rfl
  | _ :: _, [] => rfl
  | x :: xs, y :: ys => by
    have ih := cmp_swap xs ys
    simp only [cmp]
    by_cases h1 : x < y
    · rw [if_pos h1, if_neg (by omega), if_pos h1]; rfl
    · by_cases h2 : y < x
      · rw [if_pos h2, if_neg h1, if_pos h2]
      · rw [if_neg h2, if_neg h1, if_neg h1, if_neg h2, ih]
theorem cmp_range : ∀ xs ys : List Int, cmp xs ys = -1 ∨ cmp xs ys = 0 ∨ cmp xs ys = 1
  | [], [] => .inr (.inl rfl)
  | [], _ :: _ => .inl rfl
  | _ :: _, [] => .inr (.inr rfl)
  | x :: xs, y :: ys => by
    have ih := cmp_range xs ys
    simp only [cmp]
    split
    · exact .inl rfl
    · split
      · exact .inr (.inr rfl)
      · exact ih
theorem cmp_zero : ∀ xs ys : List Int, cmp xs ys = 0 ↔ xs = ys
  | [], [] => by simp [cmp]
  | [], _ :: _ => by simp [cmp]
  | _ :: _, [] => by simp [cmp]
  | x :: xs, y :: ys => by
    have ih := cmp_zero xs ys
    simp only [cmp]
    by_cases h1 : x < y
    · rw [if_pos h1]; simp; omega
    · rw [if_neg h1]
      by_cases h2 : y < x
      · rw [if_pos h2]; simp; omega
      · rw [if_neg h2, ih]; simp; omega

/-- a number put ahead of the first greater one -/
def insR (x : Int) : List Int → List Int
  | [] => [x]
  | y :: r => if x < y then x :: y :: r else y :: insR x r
def ins (s : List Int) (x : Int) : List Int := if has s x then s else insR x s
def setOf (l : List Int) : List Int := l.foldl ins []
theorem insR_drop (xs : List Int) (x : Int) (k : Nat) (h : k < xs.length) : insR x (xs.drop k) = if x < xs[k] then x :: xs.drop k else xs[k] :: insR x (xs.drop (k + 1)) := by
  rw [List.drop_eq_getElem_cons h]; rfl
theorem insR_length (x : Int) : ∀ s : List Int, (insR x s).length = s.length + 1
  | [] => rfl
  | y :: r => by
    simp only [insR]; split
    · rfl
    · simp [insR_length x r]
theorem ins_length (s : List Int) (x : Int) : (ins s x).length ≤ s.length + 1 := by
  unfold ins; split
  · omega
  · rw [insR_length]; omega
theorem foldl_ins_length : ∀ (l s : List Int), (l.foldl ins s).length ≤ s.length + l.length
  | [], s => by simp
  | x :: l, s => by
    have := foldl_ins_length l (ins s x)
    have := ins_length s x
    simp only [List.foldl_cons, List.length_cons]; omega
theorem setOf_length (l : List Int) : (setOf l).length ≤ l.length := by have := foldl_ins_length l []; simpa [setOf] using this
theorem setOf_take_length (l : List Int) (k : Nat) : (setOf (l.take k)).length ≤ l.length := Nat.le_trans (setOf_length _) (by simp; omega)
theorem setOf_snoc (l : List Int) (k : Nat) (h : k < l.length) : setOf (l.take (k + 1)) = ins (setOf (l.take k)) l[k] := by
  unfold setOf; rw [List.take_succ_eq_append_getElem h, List.foldl_append]; rfl

/-- those of a that are in b, or aren't -/
def keep (a b : List Int) (q : Bool) : List Int := a.filter fun x => has b x == q
theorem keep_snoc (a b : List Int) (q : Bool) (k : Nat) (h : k < a.length) : keep (a.take (k + 1)) b q = keep (a.take k) b q ++ (if has b a[k] == q then [a[k]] else []) := by
  unfold keep; rw [List.take_succ_eq_append_getElem h, List.filter_append]
  congr 1
  by_cases hq : (has b a[k] == q) = true
  · rw [if_pos hq]; simp only [List.filter, hq]
  · rw [if_neg hq]; simp only [Bool.not_eq_true] at hq; simp only [List.filter, hq]

/-! ### sets that rise -/
def Up (s : List Int) : Prop := s.Pairwise (· < ·)
theorem mem_insR (x z : Int) : ∀ s : List Int, z ∈ insR x s ↔ z = x ∨ z ∈ s
  | [] => by simp [insR]
  | y :: r => by
    simp only [insR]; split
    · simp
    · simp [mem_insR x z r, or_left_comm]
theorem up_insR (x : Int) : ∀ s : List Int, Up s → x ∉ s → Up (insR x s)
  | [], _, _ => by simp [insR, Up]
  | y :: r, h, hx => by
    have hr : Up r := (List.pairwise_cons.1 h).2
    have hy := (List.pairwise_cons.1 h).1
    simp only [List.mem_cons, not_or] at hx
    simp only [insR]
    by_cases hlt : x < y
    · rw [if_pos hlt]
      refine List.pairwise_cons.2 ⟨fun z hz => ?_, h⟩
      rcases List.mem_cons.1 hz with rfl | hz
      · exact hlt
      · have := hy z hz; omega
    · rw [if_neg hlt]
      refine List.pairwise_cons.2 ⟨fun z hz => ?_, up_insR x r hr hx.2⟩
      rcases (mem_insR x z r).1 hz with rfl | hz
      · omega
      · exact hy z hz
theorem mem_ins (s : List Int) (x z : Int) : z ∈ ins s x ↔ z = x ∨ z ∈ s := by
  unfold ins; split
  · rename_i h
    have := (has_iff s x).1 h
    constructor
    · exact .inr
    · rintro (rfl | h); exact this; exact h
  · exact mem_insR x z s
theorem up_ins (s : List Int) (x : Int) (h : Up s) : Up (ins s x) := by
  unfold ins; split
  · exact h
  · rename_i hx
    exact up_insR x s h (fun hm => hx ((has_iff s x).2 hm))
theorem up_foldl : ∀ (l s : List Int), Up s → Up (l.foldl ins s)
  | [], _, h => h
  | x :: l, s, h => up_foldl l _ (up_ins s x h)
theorem mem_foldl (z : Int) : ∀ (l s : List Int), z ∈ l.foldl ins s ↔ z ∈ l ∨ z ∈ s
  | [], s => by simp
  | x :: l, s => by
    rw [List.foldl_cons, mem_foldl z l, mem_ins]
    simp only [List.mem_cons]
    constructor
    · rintro (h | h | h)
      · exact .inl (.inr h)
      · exact .inl (.inl h)
      · exact .inr h
    · rintro ((h | h) | h)
      · exact .inr (.inl h)
      · exact .inl h
      · exact .inr (.inr h)
theorem up_setOf (l : List Int) : Up (setOf l) := up_foldl l [] List.Pairwise.nil
theorem mem_setOf (z : Int) (l : List Int) : z ∈ setOf l ↔ z ∈ l := by unfold setOf; rw [mem_foldl]; simp
theorem up_filter {s : List Int} (h : Up s) (p : Int → Bool) : Up (s.filter p) := List.Pairwise.filter p h
theorem mem_keep (z : Int) (a b : List Int) (q : Bool) : z ∈ keep a b q ↔ z ∈ a ∧ (has b z == q) = true := by simp [keep, List.mem_filter]

/-- A SET THAT RISES IS TOLD BY WHAT IS IN IT -/
theorem up_ext : ∀ (s t : List Int), Up s → Up t → (∀ z, z ∈ s ↔ z ∈ t) → s = t
  | [], [], _, _, _ => rfl
  | [], y :: t, _, _, h => by have := (h y).2 (by simp); simp at this
  | x :: s, [], _, _, h => by have := (h x).1 (by simp); simp at this
  | x :: s, y :: t, hs, ht, h => by
    have hxs := (List.pairwise_cons.1 hs).1
    have hyt := (List.pairwise_cons.1 ht).1
    have hxy : x = y := by
      have h1 : x ∈ y :: t := (h x).1 (by simp)
      have h2 : y ∈ x :: s := (h y).2 (by simp)
      rcases List.mem_cons.1 h1 with e | h1
      · exact e
      · rcases List.mem_cons.1 h2 with e | h2
        · exact e.symm
        · have a := hyt x h1
          have b := hxs y h2
          omega
    subst hxy
    have ih := up_ext s t (List.pairwise_cons.1 hs).2 (List.pairwise_cons.1 ht).2 (fun z => by
      constructor
      · intro hz
        rcases List.mem_cons.1 ((h z).1 (List.mem_cons_of_mem _ hz)) with e | hz'
        · have := hxs z hz; omega
        · exact hz'
      · intro hz
        rcases List.mem_cons.1 ((h z).2 (List.mem_cons_of_mem _ hz)) with e | hz'
        · have := hyt z hz; omega
        · exact hz')
    rw [ih]
theorem setOf_of_up {s : List Int} (h : Up s) : setOf s = s := up_ext _ _ (up_setOf s) h (fun z => mem_setOf z s)

end Go.Proofs.Ytkbchpbdpkbnjaa.Ids
