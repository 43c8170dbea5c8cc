/- The bytes of points: the walks. No condition but that each number is below 2 to the 256. -/
import Derived.Test.YtglmmodkflkkkaaCl
set_option linter.unusedVariables false
set_option linter.unusedSimpArgs false
set_option maxRecDepth 100000
namespace Go.Proofs.Ytglmmodkflkkkaa
open Go.RowKit Go.Sort Limbs

def Po.bytes (p : Po) : List UInt8 := if p.i = true then [0] else 4 :: (nb p.x ++ nb p.y)
theorem app_bytes (s t : List UInt8) : (⟨s.toArray⟩ : ByteArray) ++ ⟨t.toArray⟩ = ⟨(s ++ t).toArray⟩ := by
  apply ByteArray.ext; simp
set_option maxHeartbeats 8000000 in
theorem bytes_c (p : Po) (hp : p.ok) (w : World) :
    Calls Try.prog 37 #[p.v] w fun e w' => e = .returned (if p.on = true then .tuple #[.string ⟨p.bytes.toArray⟩, .int .i64 0] else .tuple #[.string ⟨#[]⟩, .int .i64 70]) ∧ Below w.heap.size w w' := by
  have HO := Lib.hid (onj hp)
  cases hon : p.on
  · rw [if_neg (by simp)]
    rw [hon] at HO
    clear hon
    obtain ⟨x, y, i⟩ := p
    simp only [Po.v, pn] at HO ⊢
    go_enter Try.func37, Try.ntmps37
    go_wp2_with fail
    refine (keep w.heap.size w (HO.out _) (by go_grown) (Nat.le_refl _)).mono ?_
    rintro e w1 ⟨rfl, hb, hk⟩
    go_wp2_with fail
    go_ret2
    exact ⟨rfl, hb⟩
  rw [if_pos rfl]
  rw [hon] at HO
  clear hon
  have HX := Lib.hid (bytes_any p.x)
  have HY := Lib.hid (bytes_any p.y)
  obtain ⟨x, y, i⟩ := p
  unfold Po.bytes
  cases i
  · simp only [] at HX HY
    have ha1 := app_bytes [4] (nb x)
    have ha2 := app_bytes ([4] ++ nb x) (nb y)
    have ha3 : [4] ++ nb x ++ nb y = 4 :: (nb x ++ nb y) := by simp
    rw [ha3] at ha2
    have hs1 : (⟨(nb x).toArray⟩ : ByteArray).size = 32 := by simp [ByteArray.size, nb_length]
    have hs2 : (⟨(nb y).toArray⟩ : ByteArray).size = 32 := by simp [ByteArray.size, nb_length]
    have hs3 : (⟨([4] ++ nb x).toArray⟩ : ByteArray).size = 33 := by simp [ByteArray.size, nb_length]
    rw [if_neg (by simp)]
    simp only []
    generalize (⟨(4 :: (nb x ++ nb y)).toArray⟩ : ByteArray) = RS at *
    generalize (⟨([4] ++ nb x).toArray⟩ : ByteArray) = R1 at *
    generalize (⟨(nb x).toArray⟩ : ByteArray) = BX at *
    generalize (⟨(nb y).toArray⟩ : ByteArray) = BY at *
    have ha1' : (⟨#[4]⟩ : ByteArray) ++ BX = R1 := ha1
    clear ha1 ha3
    simp only [Po.v, pn, nv, num] at HO HX HY ⊢
    go_enter Try.func37, Try.ntmps37
    go_wp2_with fail
    refine (keep w.heap.size w (HO.out _) (by go_grown) (Nat.le_refl _)).mono ?_
    rintro e w1 ⟨rfl, hb, hk⟩
    have KP : Hid (Bk 51 w1 w.heap.size #[.int .u64 (lb x 0 : Nat), .int .u64 (lb x 1 : Nat), .int .u64 (lb x 2 : Nat), .int .u64 (lb x 3 : Nat), .int .u64 (lb y 0 : Nat), .int .u64 (lb y 1 : Nat), .int .u64 (lb y 2 : Nat), .int .u64 (lb y 3 : Nat), .bool false]) := Lib.hid (Bk.below (Bk.new rfl) hk)
    have HB := Lib.hid hb
    clear hk hb HO
    obtain ⟨⟨x0, x1, x2, x3⟩, ⟨y0, y1, y2, y3⟩, i0⟩ := KP.out.cells9
    go_wp2_with fail
    clear x0 x1 x2 x3 y0 y1 y2 y3 i0
    obtain ⟨⟨x0, x1, x2, x3⟩, ⟨y0, y1, y2, y3⟩, i0⟩ := KP.out.reg9
    refine wp_region_quiet_below mixed (by kernel_rfl) ?_
    iterate 2 go_big_quiet_step (fail)
    go_big_quiet_step (exact qg HX.out)
    iterate 3 (first | go_big_quiet_step (fail) | quiet_step (fail))
    go_big_quiet_step (exact qg HY.out)
    repeat (first | go_big_quiet_step (fail) | quiet_step (fail))
    refine wpQuiet_nil ?_
    intro _ hw'
    obtain ⟨⟨dq, osq⟩, hw''⟩ := hw'
    subst hw''
    have HB4 := Lib.hid (HB.out.trans ((below_regrown w1 dq osq).mono HB.out.size))
    go_wp2_with fail
    go_ret2
    exact ⟨rfl, HB4.out⟩
  · rw [if_pos rfl]
    simp only [Po.v, pn] at HO ⊢
    clear HX HY
    go_enter Try.func37, Try.ntmps37
    go_wp2_with fail
    refine (keep w.heap.size w (HO.out _) (by go_grown) (Nat.le_refl _)).mono ?_
    rintro e w1 ⟨rfl, hb, hk⟩
    have KP : Hid (Bk 51 w1 w.heap.size #[.int .u64 (lb x 0 : Nat), .int .u64 (lb x 1 : Nat), .int .u64 (lb x 2 : Nat), .int .u64 (lb x 3 : Nat), .int .u64 (lb y 0 : Nat), .int .u64 (lb y 1 : Nat), .int .u64 (lb y 2 : Nat), .int .u64 (lb y 3 : Nat), .bool true]) := Lib.hid (Bk.below (Bk.new rfl) hk)
    have HB := Lib.hid hb
    clear hk hb HO
    obtain ⟨⟨x0, x1, x2, x3⟩, ⟨y0, y1, y2, y3⟩, i0⟩ := KP.out.cells9
    go_wp2_with fail
    go_ret2
    exact ⟨rfl, HB.out⟩
theorem bytesp {p : Po} (hp : p.ok) : ∀ w, Calls Try.prog 37 #[p.v] w fun e w' => e = .returned (if p.on = true then .tuple #[.string ⟨p.bytes.toArray⟩, .int .i64 0] else .tuple #[.string ⟨#[]⟩, .int .i64 70]) ∧ Below w.heap.size w w' := bytes_c p hp
end Go.Proofs.Ytglmmodkflkkkaa
