/- What is asked of package scar's calls: the document's words, as contracts. -/
import Derived.Test.YtipbkhbdnjhofaaRefT
import Derived.Test.YtipbkhbdnjhofaaOkA
set_option linter.unusedSimpArgs false
set_option linter.unusedVariables false
namespace Go.Proofs.Ytipbkhbdnjhofaa
open Go.RowKit Go.Proofs.Ytipbkhbdnjhofaa.Kind

/-- Addresses of scars, of a row: such as the types have. -/
def OkS (l : List Sc) : Prop := ∀ x ∈ l, okA x.ad
def OkL (ds : List Ad) : Prop := ∀ a ∈ ds, okA a
theorem okL_one {a : Ad} (h : okA a) : OkL [a] := fun x hx => by obtain rfl := List.mem_singleton.1 hx; exact h
theorem okL_two {a b : Ad} (h : okA a) (h2 : okA b) : OkL [a, b] := fun x hx => by
  rcases List.mem_cons.1 hx with rfl | h3
  · exact h
  · obtain rfl := List.mem_singleton.1 h3; exact h2
theorem okS_out {l : List Sc} (h : OkS l) (a : Ad) : OkS (outS l a) := fun x hx => h x (mem_out.1 hx).1
theorem okS_heal : ∀ (ds : List Ad) {l : List Sc}, OkS l → OkS (healS l ds)
  | [], _, h => h
  | a :: ds, _, h => okS_heal ds (okS_out h a)
theorem okS_one {l : List Sc} (h : OkS l) {a : Ad} (ha : okA a) (n : Int) : OkS (oneS n l a) := fun x hx => by
  rcases List.mem_append.1 hx with h1 | h1
  · exact okS_out h a x h1
  · obtain rfl := List.mem_singleton.1 h1; exact ha
theorem okS_all (n : Int) : ∀ (ds : List Ad) {l : List Sc}, OkS l → OkL ds → OkS (ds.foldl (oneS n) l)
  | [], _, h, _ => h
  | a :: ds, _, h, hd => okS_all n ds (okS_one h (hd a (by simp)) n) (fun x hx => hd x (by simp [hx]))
theorem okS_note {l : List Sc} (h : OkS l) {ds : List Ad} (hd : OkL ds) (n : Int) : OkS (noteS l n ds) := fun x hx => okS_all n ds h hd x (List.mem_of_mem_drop hx)
theorem okS_fresh {l : List Sc} (h : OkS l) (g n : Int) : OkS (freshS l g n) := fun x hx => h x (List.mem_filter.1 hx).1
/-- What is noted: at the tick that n counts as. -/
def NoteIs (L l : List Sc) (n : Int) (ds : List Ad) : Prop := L = noteS l (R3.P.clamp n) ds ∧ OkS l ∧ OkL ds
def HealIs (L l : List Sc) (ds : List Ad) : Prop := L = healS l ds ∧ OkS l ∧ OkL ds
def HasIs (r : Bool) (l : List Sc) (g n : Int) (ds : List Ad) : Prop := r = hasS l g n ds ∧ OkS l ∧ OkL ds

def NoteSpec : Prop := ∀ (l : List Sc) (n : Int) (ds : List Ad) (s v : Option Addr) (c d : Nat) (L : List Sc) (w : World), NoteIs L l n ds → l.length ≤ 500 → ds.length ≤ 400 → SK.RowC w s c l → AK.RowC w v d ds →
  Calls Try.prog 9 #[.slice s l.length c, .int .i64 n, .slice v ds.length d] w fun e w' => ∃ a1 c1, e = .returned (.slice a1 L.length c1) ∧ SK.RowC w' a1 c1 L ∧ Below w.heap.size w w'
def HealSpec : Prop := ∀ (l : List Sc) (ds : List Ad) (s v : Option Addr) (c d : Nat) (L : List Sc) (w : World), HealIs L l ds → l.length ≤ 500 → ds.length ≤ 400 → SK.RowC w s c l → AK.RowC w v d ds →
  Calls Try.prog 12 #[.slice s l.length c, .slice v ds.length d] w fun e w' => ∃ a1 c1, e = .returned (.slice a1 L.length c1) ∧ SK.RowC w' a1 c1 L ∧ Below w.heap.size w w'
def FreshSpec : Prop := ∀ (l : List Sc) (g n : Int) (s : Option Addr) (c : Nat) (L : List Sc) (w : World), L = freshS l g n → l.length ≤ 500 → SK.RowC w s c l →
  Calls Try.prog 13 #[.slice s l.length c, .int .i64 g, .int .i64 n] w fun e w' => ∃ a1 c1, e = .returned (.slice a1 L.length c1) ∧ SK.RowC w' a1 c1 L ∧ Below w.heap.size w w'
def HasSpec : Prop := ∀ (l : List Sc) (g n : Int) (ds : List Ad) (s v : Option Addr) (c d : Nat) (r : Bool) (w : World), HasIs r l g n ds → l.length ≤ 500 → ds.length ≤ 400 → SK.RowC w s c l → AK.RowC w v d ds →
  Calls Try.prog 10 #[.slice s l.length c, .int .i64 g, .int .i64 n, .slice v ds.length d] w fun e w' => e = .returned (.bool r) ∧ Below w.heap.size w w'
def WorstSpec : Prop := ∀ (l : List Sc) (g n : Int) (s : Option Addr) (c : Nat) (x : Ad) (r : Bool) (w : World), x = worstA l g n → r = worstB l g n → l.length ≤ 500 → SK.RowC w s c l →
  Calls Try.prog 14 #[.slice s l.length c, .int .i64 g, .int .i64 n] w fun e w' => e = .returned (.tuple #[x.v, .bool r]) ∧ Below w.heap.size w w'
def SameSpec : Prop := ∀ (l m : List Sc) (a b : Option Addr) (c d : Nat) (r : Bool) (w : World), r = decide (l = m) → l.length ≤ 500 → m.length ≤ 500 → SK.RowC w a c l → SK.RowC w b d m →
  Calls Try.prog 16 #[.slice a l.length c, .slice b m.length d] w fun e w' => e = .returned (.bool r) ∧ Below w.heap.size w w'
def WakesSpec : Prop := ∀ w : World, Calls Try.prog 8 #[] w fun e w' => e = .returned (.bool true) ∧ Below w.heap.size w w'

set_option maxHeartbeats 4000000 in
set_option maxRecDepth 1000000 in
theorem rgreatA_any (l : List Ad) (a : Option Addr) (c : Nat) (r : Bool) (w : World) (hr : r = decide (60 < l.length)) (hl : l.length ≤ 9223372036854775807) :
    Calls Try.prog 7 #[.slice a l.length c] w fun e w' => e = .returned (.bool r) ∧ w' = w := by
  have HR := Lib.hid hr
  clear hr
  go_enter Try.func7, Try.ntmps7
  go_wp2_with fail
  go_ret
  refine ⟨?_, rfl⟩
  rw [HR.out]
  congr 2
  simp
  omega
end Go.Proofs.Ytipbkhbdnjhofaa
