/- What each call whose answer the document fixes tells. Condition, where a form is asked: the library's variable holds a number. -/
import Derived.Test.YtlifnfchemiipaaDoorR
import Derived.Test.YtlifnfchemiipaaDoorJ
set_option linter.unusedSimpArgs false
namespace Go.Proofs.YtlifnfchemiipaaDoor
open Go.RowKit

theorem Rp.parts {B : Nat} {v : Value} {l : Parts} {w : World} (h : Rp B v l w) : PartsIn w v l := by
  rcases h.2 with ⟨rfl, h0⟩ | ⟨g, cap, cur, rfl, hg, hh, rest⟩
  · have : l = [] := List.eq_nil_of_length_eq_zero h0
    subst this
    exact ⟨none, 0, rfl, fun h => absurd rfl h⟩
  · refine ⟨some ⟨g, 0, none⟩, cap, rfl, fun _ => ⟨g, 0, rfl, blk_lt hh, fun i hi => ?_⟩⟩
    have key : ∀ (l : Parts) i, (hi : i < l.length) → (partCells l)[i * 2]? = some (strV l[i].1) ∧ (partCells l)[i * 2 + 1]? = some (strV l[i].2) := by
      intro l
      induction l with
      | nil => intro i hi; simp at hi
      | cons p l ih =>
        intro i hi
        cases i with
        | zero => exact ⟨rfl, rfl⟩
        | succ i =>
          have e : partCells (p :: l) = strV p.1 :: strV p.2 :: partCells l := rfl
          have e1 : (i + 1) * 2 = i * 2 + 1 + 1 := by omega
          rw [e, e1]
          exact ih i (by simpa using hi)
    obtain ⟨k0, k1⟩ := key l i hi
    have c := fun j u hj => World.ownsRow.cells h (g := g) rfl j u hj
    have a0 := c _ _ k0
    have a1 := c _ _ k1
    have ea : ∀ j, (⟨g, 0, none⟩ : Addr).add j = ⟨g, 0 + j, none⟩ := by intro j; unfold Addr.add; split <;> simp_all
    rw [ea] at a0 a1
    exact ⟨a0, a1⟩

theorem aw1 (w : World) : Calls Tryd.prog 11 #[.string ⟨#[48, 48, 102, 102, 54, 49]⟩] w fun e w' => e = .returned (.tuple #[.string ⟨#[0, 255, 97]⟩, .int .i64 0]) ∧ Below w.heap.size w w' :=
  (fromHex_any ⟨#[48, 48, 102, 102, 54, 49]⟩ w (by decide)).mono fun e w' ⟨he, hb⟩ => ⟨by
    have h : unhexL [48, 48, 102, 102, 54, 49] = some [0, 255, 97] := by decide +kernel
    rw [he]; show Two (unhexL [48, 48, 102, 102, 54, 49]) 10 = _; rw [h]; rfl, hb⟩
theorem aw2 (w : World) : Calls Tryd.prog 16 #[.string ⟨#[45, 95, 56]⟩] w fun e w' => e = .returned (.tuple #[.string ⟨#[251, 255]⟩, .int .i64 0]) ∧ Below w.heap.size w w' :=
  (fromBase64_any ⟨#[45, 95, 56]⟩ w (by decide)).mono fun e w' ⟨he, hb⟩ => ⟨by
    have h : unb64L [45, 95, 56] = some [251, 255] := by decide +kernel
    rw [he]; show Two (unb64L [45, 95, 56]) 11 = _; rw [h]; rfl, hb⟩
theorem aw3 (w : World) : Calls Tryd.prog 16 #[.string ⟨#[90, 104]⟩] w fun e w' => e = .returned (.tuple #[.string ⟨#[]⟩, .int .i64 11]) ∧ Below w.heap.size w w' :=
  (fromBase64_any ⟨#[90, 104]⟩ w (by decide)).mono fun e w' ⟨he, hb⟩ => ⟨by
    have h : unb64L [90, 104] = none := by decide +kernel
    rw [he]; show Two (unb64L [90, 104]) 11 = _; rw [h]; rfl, hb⟩
theorem aw4 (w : World) : Calls Tryd.prog 20 #[.string ⟨#[97, 37, 50, 48, 98, 37, 50, 102]⟩] w fun e w' => e = .returned (.tuple #[.string ⟨#[97, 32, 98, 47]⟩, .int .i64 0]) ∧ Below w.heap.size w w' :=
  (fromPercent_any ⟨#[97, 37, 50, 48, 98, 37, 50, 102]⟩ w (by decide)).mono fun e w' ⟨he, hb⟩ => ⟨by
    have h : unpctL [97, 37, 50, 48, 98, 37, 50, 102] = some [97, 32, 98, 47] := by decide +kernel
    rw [he]; show Two (unpctL [97, 37, 50, 48, 98, 37, 50, 102]) 12 = _; rw [h]; rfl, hb⟩
theorem aw5 (w : World) : Calls Tryd.prog 20 #[.string ⟨#[37, 52]⟩] w fun e w' => e = .returned (.tuple #[.string ⟨#[]⟩, .int .i64 12]) ∧ Below w.heap.size w w' :=
  (fromPercent_any ⟨#[37, 52]⟩ w (by decide)).mono fun e w' ⟨he, hb⟩ => ⟨by
    have h : unpctL [37, 52] = none := by decide +kernel
    rw [he]; show Two (unpctL [37, 52]) 12 = _; rw [h]; rfl, hb⟩
def awP : Parts := [([97], [49, 32, 50]), ([98], [38])]
theorem aw6 (w : World) (b : Nat) (hm : Hm w) (hb : w.heap[b]? = some (.cells #[.string ⟨#[97]⟩, .string ⟨#[49, 32, 50]⟩, .string ⟨#[98]⟩, .string ⟨#[38]⟩] 34 (0, 0))) :
    Calls Tryd.prog 24 #[.slice (some ⟨b, 0, none⟩) 2 2] w fun e w' => e = .returned (.tuple #[.string ⟨#[97, 61, 49, 43, 50, 38, 98, 61, 37, 50, 54]⟩, .int .i64 0]) ∧ Below w.heap.size w w' := by
  have hP : PartsIn w (.slice (some ⟨b, 0, none⟩) 2 2) awP := by
    refine ⟨_, 2, rfl, fun _ => ⟨b, 0, rfl, blk_lt hb, fun i hi => ?_⟩⟩
    have c := fun j => Lib.cell_of_heap (j := j) hb
    match i, hi with
    | 0, _ => exact ⟨by rw [c]; rfl, by rw [c]; rfl⟩
    | 1, _ => exact ⟨by rw [c]; rfl, by rw [c]; rfl⟩
  refine (form_any _ awP w hP hm (by decide) (by decide)).mono fun e w' ⟨he, hb⟩ => ⟨?_, hb⟩
  have h : formL awP = some [97, 61, 49, 43, 50, 38, 98, 61, 37, 50, 54] := by decide +kernel
  rw [he, h]; rfl
theorem aw7 (w : World) (hm : Hm w) : Calls Tryd.prog 26 #[.string ⟨#[97, 61, 49, 43, 50, 38, 98, 61, 37, 50, 54]⟩] w fun e w' => ∃ g cap, e = .returned (.tuple #[.slice (some ⟨g, 0, none⟩) 2 cap, .int .i64 0]) ∧ Rp w.heap.size (.slice (some ⟨g, 0, none⟩) 2 cap) awP w' ∧ Below w.heap.size w w' :=
  (fromForm_any ⟨#[97, 61, 49, 43, 50, 38, 98, 61, 37, 50, 54]⟩ w hm (by decide)).mono fun e w' ⟨⟨v, he, hR⟩, hb⟩ => by
    have h : unformL [97, 61, 49, 43, 50, 38, 98, 61, 37, 50, 54] = (0, awP) := by decide +kernel
    have he' : e = .returned (.tuple #[v, .int .i64 (unformL [97, 61, 49, 43, 50, 38, 98, 61, 37, 50, 54]).1]) := he
    have hR' : Rp w.heap.size v (unformL [97, 61, 49, 43, 50, 38, 98, 61, 37, 50, 54]).2 w' := hR
    rw [h] at he' hR'
    rcases hR'.2 with ⟨_, h0⟩ | ⟨g, cap, cur, rfl, _⟩
    · cases h0
    · exact ⟨g, cap, he', hR', hb⟩
theorem aw8 (w : World) (hm : Hm w) : Calls Tryd.prog 26 #[.string ⟨#[97, 38, 38, 98]⟩] w fun e w' => ∃ v, e = .returned (.tuple #[v, .int .i64 13]) ∧ Below w.heap.size w w' :=
  (fromForm_any ⟨#[97, 38, 38, 98]⟩ w hm (by decide)).mono fun e w' ⟨⟨v, he, hR⟩, hb⟩ => by
    have h : unformL [97, 38, 38, 98] = (13, []) := by decide +kernel
    have he' : e = .returned (.tuple #[v, .int .i64 (unformL [97, 38, 38, 98]).1]) := he
    rw [h] at he'
    exact ⟨v, he', hb⟩
theorem aw9 (w : World) : Calls Tryd.prog 11 #[.string ⟨#[48]⟩] w fun e w' => e = .returned (.tuple #[.string ⟨#[]⟩, .int .i64 10]) ∧ Below w.heap.size w w' :=
  (fromHex_any ⟨#[48]⟩ w (by decide)).mono fun e w' ⟨he, hb⟩ => ⟨by
    have h : unhexL [48] = none := by decide +kernel
    rw [he]; show Two (unhexL [48]) 10 = _; rw [h]; rfl, hb⟩
theorem aw10 (v : Value) (w : World) (hP : PartsIn w v awP) : Calls Tryd.prog 29 #[v, .string ⟨#[98]⟩] w fun e w' => e = .returned (.tuple #[.string ⟨#[38]⟩, .int .i64 1]) ∧ Below w.heap.size w w' :=
  (get_any v awP [98] w hP (by decide) (by decide)).mono fun e w' ⟨he, hb⟩ => ⟨by rw [he]; rfl, hb⟩
theorem aw11 (w : World) : Calls Tryd.prog 14 #[.string ⟨#[255]⟩] w fun e w' => e = .returned (.string ⟨#[102, 102]⟩) ∧ Below w.heap.size w w' :=
  (hex_any ⟨#[255]⟩ w (by decide)).mono fun e w' ⟨he, hb⟩ => ⟨by rw [he]; rfl, hb⟩
theorem aw12 (w : World) : Calls Tryd.prog 18 #[.string ⟨#[102, 111]⟩] w fun e w' => e = .returned (.string ⟨#[90, 109, 56]⟩) ∧ Below w.heap.size w w' :=
  (base64_any ⟨#[102, 111]⟩ w (by decide)).mono fun e w' ⟨he, hb⟩ => ⟨by
    have h : b64L [102, 111] = [90, 109, 56] := by decide +kernel
    rw [he]; show Ending.returned (.string ⟨(b64L [102, 111]).toArray⟩) = _; rw [h], hb⟩
theorem aw13 (w : World) : Calls Tryd.prog 22 #[.string ⟨#[47]⟩] w fun e w' => e = .returned (.string ⟨#[37, 50, 70]⟩) ∧ Below w.heap.size w w' :=
  (percent_any ⟨#[47]⟩ w (by decide)).mono fun e w' ⟨he, hb⟩ => ⟨by
    have h : pctL [47] = [37, 50, 70] := by decide +kernel
    rw [he]; show Ending.returned (.string ⟨(pctL [47]).toArray⟩) = _; rw [h], hb⟩
end Go.Proofs.YtlifnfchemiipaaDoor
