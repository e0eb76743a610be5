/- What is asked of package order's calls: the document's words, as contracts. -/
import Derived.Test.YtcihcdifjnobjaaRefD
import Derived.Test.YtcihcdifjnobjaaOkA
set_option linter.unusedSimpArgs false
set_option linter.unusedVariables false
namespace Go.Proofs.Ytcihcdifjnobjaa
open Go.RowKit Go.Proofs.Ytcihcdifjnobjaa.Kind

/-- Addresses of a row: such as the types have. -/
def OkL (ds : List Ad) : Prop := ∀ a ∈ ds, okA a
theorem okL_nil : OkL [] := fun _ h => by cases h
theorem okL_snoc {l : List Ad} {x : Ad} (h : OkL l) (hx : okA x) : OkL (([] : List Ad) ++ l ++ [x]) := fun a ha => by
  rcases List.mem_append.1 ha with h1 | h1
  · exact h a (by simpa using h1)
  · obtain rfl := List.mem_singleton.1 h1; exact hx
theorem okL_once {l L : List Ad} (e : L = Turn.once l) (h : OkL l) : OkL L := fun a ha => h a ((Turn.mem_once l a).1 (e ▸ ha))
theorem okL_turns {l L : List Ad} (e : L = Turn.turns famA l) (h : OkL l) : OkL L := fun a ha => h a (Turn.mem_turns.1 (e ▸ ha))
theorem okL_list {l m L : List Ad} (e : L = Turn.list famA l m) (h : OkL l) : OkL L := fun a ha => h a (Turn.mem_list.1 (e ▸ ha))
def OnceIs (L l : List Ad) : Prop := L = Turn.once l ∧ OkL l
def TurnsIs (L l : List Ad) : Prop := L = Turn.turns famA l ∧ OkL l
def ListIs (L l bad : List Ad) : Prop := L = Turn.list famA l bad ∧ OkL l ∧ OkL bad

def OnceSpec : Prop := ∀ (l : List Ad) (s : Option Addr) (c : Nat) (L : List Ad) (w : World), OnceIs L l → l.length ≤ 400 → AK.RowC w s c l →
  Calls Try.prog 12 #[.slice s l.length c] w fun e w' => ∃ a1 c1, e = .returned (.slice a1 L.length c1) ∧ AK.RowC w' a1 c1 L ∧ Below w.heap.size w w'
def TurnsSpec : Prop := ∀ (l : List Ad) (s : Option Addr) (c : Nat) (L : List Ad) (w : World), TurnsIs L l → l.length ≤ 400 → AK.RowC w s c l →
  Calls Try.prog 14 #[.slice s l.length c] w fun e w' => ∃ a1 c1, e = .returned (.slice a1 L.length c1) ∧ AK.RowC w' a1 c1 L ∧ Below w.heap.size w w'
def ListSpec : Prop := ∀ (l bad : List Ad) (s v : Option Addr) (c d : Nat) (L : List Ad) (w : World), ListIs L l bad → l.length ≤ 400 → bad.length ≤ 400 → AK.RowC w s c l → AK.RowC w v d bad →
  Calls Try.prog 16 #[.slice s l.length c, .slice v bad.length d] w fun e w' => ∃ a1 c1, e = .returned (.slice a1 L.length c1) ∧ AK.RowC w' a1 c1 L ∧ Below w.heap.size w w'
def FirstSpec : Prop := ∀ (n : Int) (l : List Ad) (s : Option Addr) (c : Nat) (L : List Ad) (w : World), L = firstZ n l → l.length ≤ 400 → AK.RowC w s c l →
  Calls Try.prog 18 #[.int .i64 n, .slice s l.length c] w fun e w' => ∃ a1 c1, e = .returned (.slice a1 L.length c1) ∧ AK.RowC w' a1 c1 L ∧ Below w.heap.size w w'
def PlaceSpec : Prop := ∀ (l : List Ad) (a : Ad) (s : Option Addr) (c : Nat) (r : Int) (w : World), r = placeZ l a → l.length ≤ 400 → AK.RowC w s c l →
  Calls Try.prog 20 #[.slice s l.length c, a.v] w fun e w' => e = .returned (.int .i64 r) ∧ Below w.heap.size w w'
def WakesSpec : Prop := ∀ w : World, Calls Try.prog 10 #[] w fun e w' => e = .returned (.bool true) ∧ Below w.heap.size w w'
end Go.Proofs.Ytcihcdifjnobjaa
