/- What of a plan that may be may be left out; what may not stand there twice: plain data. -/
import Derived.Test.YtlceeeajhejedaaSpecs
set_option linter.unusedSimpArgs false
set_option linter.unusedVariables false
namespace Go.Proofs.Ytlceeeajhejedaa
open Go.RowKit Go.Proofs.Ytlceeeajhejedaa.Kind

theorem check_few {R : Rules} {P : Pl} (h : checkB R P = true) : P.zones.length ≤ 8 ∧ P.fates.length ≤ 32 ∧ (0 ≤ P.ticks ∧ P.ticks ≤ 200) ∧ P.drops.length ≤ 16 := by
  unfold checkB at h
  simp only [Bool.and_eq_true, decide_eq_true_eq] at h
  obtain ⟨⟨⟨⟨⟨⟨⟨⟨h1, _⟩, _⟩, h4⟩, _⟩, _⟩, h7⟩, h8⟩, _⟩ := h
  exact ⟨h1, h4, h7, h8⟩
theorem nodup_more {α β : Type} {f : α → β} {l : List α} {x : α} (h : x ∈ l) : ¬ ((l ++ [x]).map f).Nodup := by
  rw [List.map_append, List.nodup_append]
  rintro ⟨_, _, h3⟩
  exact h3 (f x) (List.mem_map_of_mem h) (f x) (by simp) rfl
theorem check_zone {R : Rules} {P : Pl} {z : Zo} (h : z ∈ P.zones) : checkB R ⟨P.zones ++ [z], P.fates, P.ticks, P.drops⟩ = false := by
  unfold checkB
  simp only [decide_eq_false (nodup_more h), Bool.and_false, Bool.false_and]
theorem check_fate {R : Rules} {P : Pl} {z : Fo} (h : z ∈ P.fates) : checkB R ⟨P.zones, P.fates ++ [z], P.ticks, P.drops⟩ = false := by
  unfold checkB
  simp only [decide_eq_false (nodup_more h), Bool.and_false, Bool.false_and]
theorem all_sub {α : Type} {f : α → Bool} {k l : List α} (h : k.Sublist l) (hl : l.all f = true) : k.all f = true := by
  rw [List.all_eq_true] at hl ⊢
  exact fun x hx => hl x (h.subset hx)
theorem check_less {R : Rules} {P : Pl} (h : checkB R P = true) {zs : List Zo} {fs : List Fo} {ds : List Int} {t : Int} (h1 : zs.Sublist P.zones) (h2 : fs.Sublist P.fates) (h3 : ds.Sublist P.drops) (ht : t = max 0 (P.ticks - 1)) : checkB R ⟨zs, fs, t, ds⟩ = true := by
  unfold checkB at h ⊢
  simp only [Bool.and_eq_true, decide_eq_true_eq] at h ⊢
  obtain ⟨⟨⟨⟨⟨⟨⟨⟨a1, a2⟩, a3⟩, a4⟩, a5⟩, a6⟩, a7⟩, a8⟩, a9⟩ := h
  exact ⟨⟨⟨⟨⟨⟨⟨⟨Nat.le_trans h1.length_le a1, all_sub h1 a2⟩, (h1.map _).nodup a3⟩, Nat.le_trans h2.length_le a4⟩, all_sub h2 a5⟩, (h2.map _).nodup a6⟩, by omega⟩, Nat.le_trans h3.length_le a8⟩, all_sub h3 a9⟩
theorem out_sub {α : Type} (l : List α) (k : Nat) : (l.take k ++ l.drop (k + 1)).Sublist l := by
  have e : l.drop (k + 1) = (l.drop k).drop 1 := by rw [List.drop_drop]
  have h := (List.Sublist.refl (l.take k)).append (List.drop_sublist 1 (l.drop k))
  rw [List.take_append_drop] at h
  rw [e]
  exact h
theorem place_at (gone : Int) (n : Nat) (hn : n ≠ 0) (hn2 : n ≤ 1000) : ∃ G : Nat, G < n ∧ (wrap64 (gone.tmod (n : Int) + (n : Int))).tmod (n : Int) = (G : Int) := by
  have h1 : -(n : Int) < gone.tmod n ∧ gone.tmod n < n := by
    rw [Int.tmod_eq_emod]
    have h2 := Int.emod_nonneg gone (show (n : Int) ≠ 0 by omega)
    have h3 := Int.emod_lt_of_pos gone (show (0 : Int) < n by omega)
    split <;> simp <;> omega
  have h2 : wrap64 (gone.tmod (n : Int) + (n : Int)) = gone.tmod (n : Int) + (n : Int) := by
    unfold wrap64
    omega
  rw [h2, Int.tmod_eq_emod_of_nonneg (by omega)]
  have h3 := Int.emod_nonneg (gone.tmod (n : Int) + (n : Int)) (show (n : Int) ≠ 0 by omega)
  have h4 := Int.emod_lt_of_pos (gone.tmod (n : Int) + (n : Int)) (show (0 : Int) < n by omega)
  exact ⟨((gone.tmod (n : Int) + (n : Int)) % (n : Int)).toNat, by omega, by omega⟩
end Go.Proofs.Ytlceeeajhejedaa
