/-
  A disk as lists (layer 5): plain mathematics, no program.
-/
import Derived.Test.YtnnjcgamhkmljaaBase
namespace Go.Proofs.Ytnnjcgamhkmljaa
namespace Dsk

/-- a sector of a text -/
def fill (s : ByteArray) : ByteArray := ⟨(s.data.toList ++ List.replicate (256 - s.size) 0).toArray⟩
theorem fill_data (s : ByteArray) : (fill s).data.toList = s.data.toList ++ List.replicate (256 - s.size) 0 := by simp [fill]
theorem fill_size {s : ByteArray} (h : s.size ≤ 256) : (fill s).size = 256 := by
  have h1 := B.size_data (fill s)
  rw [fill_data, List.length_append, List.length_replicate, B.size_data] at h1
  omega
theorem fill_full {s : ByteArray} (h : 256 ≤ s.size) : fill s = s := by
  apply B.ext_data; rw [fill_data]
  have : 256 - s.size = 0 := by omega
  rw [this]; simp
theorem fill_step {s : ByteArray} (h : s.size < 256) : fill (s ++ ByteArray.mk #[0]) = fill s := by
  apply B.ext_data
  rw [fill_data, fill_data, B.cat_bytes, B.cat_size, List.append_assoc]
  have e : 256 - s.size = (256 - (s.size + (ByteArray.mk #[0]).size)) + 1 := by
    have : (ByteArray.mk #[0]).size = 1 := rfl
    omega
  rw [e, List.replicate_succ]; rfl

/-- a disk as the document has it -/
structure D where
  now : List ByteArray
  sure : List ByteArray
  loose : List Int
  writes : Int
  halt : Int
  down : Bool

/-- may there be one write more? -/
def turn (d : D) : D × Bool :=
  if d.halt = 0 then ({ d with down := true }, false)
  else ({ d with halt := if 0 < d.halt then d.halt - 1 else d.halt, writes := d.writes + 1 }, true)

/-- a number more among numbers that rise -/
def withR (x : Int) : List Int → List Int
  | [] => [x]
  | y :: r => if x < y then x :: y :: r else if x = y then y :: r else y :: withR x r
theorem withR_drop (l : List Int) (x : Int) (k : Nat) (h : k < l.length) : withR x (l.drop k) = if x < l[k] then x :: l.drop k else if x = l[k] then l.drop k else l[k] :: withR x (l.drop (k + 1)) := by
  rw [List.drop_eq_getElem_cons h]; rfl
theorem withR_length (x : Int) (l : List Int) : (withR x l).length ≤ l.length + 1 := by
  induction l with
  | nil => simp [withR]
  | cons y r ih =>
    unfold withR
    split
    · simp
    · split
      · simp
      · simp only [List.length_cons]; omega
theorem with_rel {G s : List Int} {x : Int} {k : Nat} (h : k < s.length) (h1 : ¬ x < s[k]) (h2 : ¬ x = s[k]) : G ++ withR x (s.drop k) = (G ++ [s[k]]) ++ withR x (s.drop (k + 1)) := by
  rw [withR_drop s x k h, if_neg h1, if_neg h2]; simp
theorem with_same {G s : List Int} {x : Int} {k : Nat} (h : k < s.length) (h2 : x = s[k]) : G ++ withR x (s.drop k) = (G ++ [s[k]]) ++ s.drop (k + 1) := by
  rw [withR_drop s x k h, if_neg (by omega), if_pos h2, List.drop_eq_getElem_cons h]; simp
theorem with_less {G s : List Int} {x : Int} {k : Nat} (h : k < s.length) (hx : x < s[k]) : G ++ withR x (s.drop k) = ((G ++ [x]) ++ [s[k]]) ++ s.drop (k + 1) := by
  rw [withR_drop s x k h, if_pos hx, List.drop_eq_getElem_cons h]; simp
theorem with_done {G s : List Int} {k : Nat} (h : k < s.length) : G ++ s.drop k = (G ++ [s[k]]) ++ s.drop (k + 1) := by
  rw [List.drop_eq_getElem_cons h]; simp

def write (d : D) (i : Int) (s : ByteArray) : D × Int :=
  if d.down then (d, 6)
  else if i < 0 ∨ (d.now.length : Int) ≤ i then (d, 7)
  else if 256 < s.size then (d, 1)
  else
    let t := turn d
    if t.2 then ({ t.1 with now := t.1.now.set i.toNat (fill s), loose := withR i t.1.loose }, 0) else (t.1, 6)
def flush (d : D) : D × Int :=
  if d.down then (d, 6)
  else
    let t := turn d
    if t.2 then ({ t.1 with sure := t.1.now, loose := [] }, 0) else (t.1, 6)
end Dsk
end Go.Proofs.Ytnnjcgamhkmljaa
