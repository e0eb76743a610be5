/- What stands at a place of a row; takers as plain data. -/
import Derived.Test.YtjiepdgflfhkcaaSpecs
set_option linter.unusedSimpArgs false
set_option linter.unusedVariables false
namespace Go.Proofs.Ytjiepdgflfhkcaa
open Go.RowKit Go.Proofs.Ytjiepdgflfhkcaa.Kind Go.Proofs.Ytjiepdgflfhkcaa.P7

/-- A taker. -/
structure Tk where
  q : Int
  j : Int
  deriving DecidableEq, Inhabited
def TK : Kind Try.prog Tk where
  enc := fun t => [.int .i64 t.q, .int .i64 t.j]
  k := 2
  T := 73
  S := 71
  z := .agg #[.int .i64 0, .int .i64 0]
  bytes := 16
  hk := fun _ => rfl
  h1 := by
    intro x v hv
    simp only [List.mem_cons, List.not_mem_nil, or_false] at hv
    rcases hv with rfl | rfl <;> rfl
  hu := Try.underlying71
  hi := by kernel_rfl
  hz := rfl
  hk0 := by decide
  hb := by decide
theorem TK.two {w : World} {b o : Nat} {l : List Tk} (h : TK.At w b o l) {j : Nat} {x : Tk} (hx : l[j]? = some x) :
    w.cell? ⟨b, o + j * 2, none⟩ = some (.int .i64 x.q) ∧ w.cell? ⟨b, o + j * 2 + 1, none⟩ = some (.int .i64 x.j) :=
  ⟨h j x hx 0 _ rfl, h j x hx 1 _ rfl⟩
/-- Where rows of takers lie. -/
def HK : Kind Try.prog Hv where
  enc := fun h => [.slice h.a h.n h.c]
  k := 1
  T := 71
  S := 55
  z := .slice none 0 0
  bytes := 24
  hk := fun _ => rfl
  h1 := by
    intro x v hv
    simp only [List.mem_cons, List.not_mem_nil, or_false] at hv
    subst hv
    rfl
  hu := Try.underlying55
  hi := by kernel_rfl
  hz := rfl
  hk0 := by decide
  hb := by decide
theorem HK.one {w : World} {b o : Nat} {l : List Hv} (h : HK.At w b o l) {j : Nat} {x : Hv} (hx : l[j]? = some x) : w.cell? ⟨b, o + j, none⟩ = some (.slice x.a x.n x.c) := by
  have h1 := h j x hx 0 _ rfl
  have e : o + j * HK.k + 0 = o + j := by show o + j * 1 + 0 = o + j; omega
  rwa [e] at h1
/-- A table of takers. -/
def TableC (w : World) (a : Option Addr) (c : Nat) (hs : List Hv) (T : List (List Tk)) : Prop := HK.RowC w a c hs ∧ hs.length = T.length ∧ ∀ (j : Nat) (h : Hv) (l : List Tk), hs[j]? = some h → T[j]? = some l → h.n = l.length ∧ TK.RowC w h.a h.c l
theorem TableC.below {w w' : World} {a : Option Addr} {c : Nat} {hs : List Hv} {T : List (List Tk)} (h : TableC w a c hs T) (hb : Below w.heap.size w w') : TableC w' a c hs T := ⟨h.1.below hb, h.2.1, fun j x l h1 h2 => ⟨(h.2.2 j x l h1 h2).1, (h.2.2 j x l h1 h2).2.below hb⟩⟩
theorem TableC.at {w : World} {a : Option Addr} {c : Nat} {hs : List Hv} {R : List (List Tk)} (h : TableC w a c hs R) {p : Nat} {row : List Tk} (hp : R[p]? = some row) : ∃ (b o : Nat) (x : Hv), hs[p]? = some x ∧ a = some ⟨b, o, none⟩ ∧ b < w.heap.size ∧ w.cell? ⟨b, o + p, none⟩ = some (.slice x.a row.length x.c) ∧ TK.RowC w x.a x.c row := by
  have hlt : p < hs.length := by rw [h.2.1]; exact (List.getElem?_eq_some_iff.1 hp).1
  obtain ⟨b, o, h1, h2, h3⟩ := h.1.2.2.2 (by omega)
  have hx : hs[p]? = some hs[p] := List.getElem?_eq_getElem hlt
  obtain ⟨h4, h5⟩ := h.2.2 p hs[p] row hx hp
  have h6 := HK.one h3 hx
  rw [h4] at h6
  exact ⟨b, o, hs[p], hx, h1, h2, h6, h5⟩


set_option maxHeartbeats 4000000 in
set_option maxRecDepth 1000000 in
theorem atb_any (l : List Bool) (p : Nat) (v ok : Bool) (hv : l.getD p false = v) (hok : ok = decide (p < l.length)) (a : Option Addr) (c : Nat) (w : World) (hR : BK.RowC w a c l) :
    Calls Try.prog 37 #[.slice a l.length c, .int .i64 p] w fun e w' => e = .returned (.tuple #[.bool v, .bool ok]) ∧ w' = w := by
  have hp0 : ¬ (p : Int) < 0 := by omega
  by_cases hp : p < l.length
  · obtain ⟨b, o, rfl, hb, hat⟩ := hR.2.2.2 (by omega)
    obtain ⟨x, hx⟩ : ∃ x, l[p]? = some x := ⟨_, List.getElem?_eq_getElem hp⟩
    have c0 := BK.one hat hx
    obtain rfl : v = x := by rw [← hv, List.getD_eq_getElem?_getD, hx]; rfl
    obtain rfl : ok = true := by rw [hok]; simp [hp]
    have hpi : (p : Int) < (l.length : Int) := by omega
    clear hR hat hx hv hok
    go_enter Try.func37, Try.ntmps37
    go_wp2_with fail
    go_ret2
    exact ⟨rfl, rfl⟩
  · obtain rfl : v = false := by rw [← hv, List.getD_eq_getElem?_getD, List.getElem?_eq_none (by omega)]; rfl
    obtain rfl : ok = false := by rw [hok]; simp [hp]
    have hpi : ¬ (p : Int) < (l.length : Int) := by omega
    have hpj : (l.length : Int) ≤ p := by omega
    clear hR hv hok
    go_enter Try.func37, Try.ntmps37
    go_wp2_with fail
    go_ret2
    exact ⟨rfl, rfl⟩

set_option maxHeartbeats 4000000 in
set_option maxRecDepth 1000000 in
theorem atr_cell (b o p n c m cc : Nat) (ad : Option Addr) (w : World) (hb : b < w.heap.size) (c0 : w.cell? ⟨b, o + p, none⟩ = some (.slice ad m cc)) (hpn : p < n) :
    Calls Try.prog 30 #[.slice (some ⟨b, o, none⟩) n c, .int .i64 p] w fun e w' => e = .returned (.tuple #[.slice ad m cc, .bool true]) ∧ w' = w := by
  have hpi : (p : Int) < (n : Int) := by omega
  have hp0 : ¬ (p : Int) < 0 := by omega
  go_enter Try.func30, Try.ntmps30
  go_wp2_with fail
  go_ret2
  exact ⟨rfl, rfl⟩
theorem atr_some (hs : List Hv) (R : List (List Of)) (p : Nat) (row : List Of) (hp : R[p]? = some row) (a : Option Addr) (c : Nat) (w : World) (hR : RowsC w a c hs R) :
    ∃ (ad : Option Addr) (c' : Nat), OK.RowC w ad c' row ∧ Calls Try.prog 30 #[.slice a hs.length c, .int .i64 p] w fun e w' => e = .returned (.tuple #[.slice ad row.length c', .bool true]) ∧ w' = w := by
  obtain ⟨b, o, x, rfl, hb, c0, hO⟩ := hR.at hp
  have hpn : p < hs.length := by
    have := (List.getElem?_eq_some_iff.1 hp).1
    have := hR.2.1
    omega
  exact ⟨x.a, x.c, hO, atr_cell b o p hs.length c row.length x.c x.a w hb c0 hpn⟩

set_option maxHeartbeats 4000000 in
set_option maxRecDepth 1000000 in
theorem atr_none (n : Nat) (p : Int) (hp : p < 0 ∨ (n : Int) ≤ p) (a : Option Addr) (c : Nat) (w : World) :
    Calls Try.prog 30 #[.slice a n c, .int .i64 p] w fun e w' => e = .returned (.tuple #[.slice none 0 0, .bool false]) ∧ w' = w := by
  rcases hp with hp | hp
  · go_enter Try.func30, Try.ntmps30
    go_wp2_with fail
    go_ret2
    exact ⟨rfl, rfl⟩
  · have hp0 : ¬ p < 0 := by omega
    go_enter Try.func30, Try.ntmps30
    go_wp2_with fail
    go_ret2
    exact ⟨rfl, rfl⟩

set_option maxHeartbeats 4000000 in
set_option maxRecDepth 1000000 in
theorem att_cell (b o p n c m cc : Nat) (ad : Option Addr) (w : World) (hb : b < w.heap.size) (c0 : w.cell? ⟨b, o + p, none⟩ = some (.slice ad m cc)) (hpn : p < n) :
    Calls Try.prog 38 #[.slice (some ⟨b, o, none⟩) n c, .int .i64 p] w fun e w' => e = .returned (.tuple #[.slice ad m cc, .bool true]) ∧ w' = w := by
  have hpi : (p : Int) < (n : Int) := by omega
  have hp0 : ¬ (p : Int) < 0 := by omega
  go_enter Try.func38, Try.ntmps38
  go_wp2_with fail
  go_ret2
  exact ⟨rfl, rfl⟩
theorem att_some (hs : List Hv) (R : List (List Tk)) (p : Nat) (row : List Tk) (hp : R[p]? = some row) (a : Option Addr) (c : Nat) (w : World) (hR : TableC w a c hs R) :
    ∃ (ad : Option Addr) (c' : Nat), (∃ x, hs[p]? = some x ∧ ad = x.a ∧ c' = x.c) ∧ TK.RowC w ad c' row ∧ Calls Try.prog 38 #[.slice a hs.length c, .int .i64 p] w fun e w' => e = .returned (.tuple #[.slice ad row.length c', .bool true]) ∧ w' = w := by
  obtain ⟨b, o, x, hx, rfl, hb, c0, hO⟩ := hR.at hp
  have hpn : p < hs.length := by
    have := (List.getElem?_eq_some_iff.1 hp).1
    have := hR.2.1
    omega
  exact ⟨x.a, x.c, ⟨x, hx, rfl, rfl⟩, hO, att_cell b o p hs.length c row.length x.c x.a w hb c0 hpn⟩

set_option maxHeartbeats 4000000 in
set_option maxRecDepth 1000000 in
theorem att_none (n : Nat) (p : Int) (hp : p < 0 ∨ (n : Int) ≤ p) (a : Option Addr) (c : Nat) (w : World) :
    Calls Try.prog 38 #[.slice a n c, .int .i64 p] w fun e w' => e = .returned (.tuple #[.slice none 0 0, .bool false]) ∧ w' = w := by
  rcases hp with hp | hp
  · go_enter Try.func38, Try.ntmps38
    go_wp2_with fail
    go_ret2
    exact ⟨rfl, rfl⟩
  · have hp0 : ¬ p < 0 := by omega
    go_enter Try.func38, Try.ntmps38
    go_wp2_with fail
    go_ret2
    exact ⟨rfl, rfl⟩

end Go.Proofs.Ytjiepdgflfhkcaa
