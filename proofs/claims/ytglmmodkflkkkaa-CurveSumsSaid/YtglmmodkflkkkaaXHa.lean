/- A number's 32 bytes, told by the reference (its Bytes). No condition. Bytes as a number, the highest first (the reference's Read). Condition: at most 10^13 bytes. -/
import Derived.Test.YtglmmodkflkkkaaXFk
import Derived.Test.YtglmmodkflkkkaaXJb
import Derived.Test.YtglmmodkflkkkaaXFo
import Derived.Test.YtglmmodkflkkkaaXShelf
import Derived.Test.YtglmmodkflkkkaaXNj
set_option linter.unusedVariables false
set_option linter.unusedSimpArgs false
set_option maxRecDepth 100000
namespace Go.Proofs.Ytglmmodkflkkkaa.Ref
open Go.RowKit Go.Proofs.Ytglmmodkflkkkaa.Digits Limbs

/-- a row of bytes of the call's own -/
def bl (l : List UInt8) : List Value := l.map fun x => Value.int .u8 (x.toNat : Int)
def Rb (B : Nat) (v : Value) (l : List UInt8) (w : World) : Prop := w.ownsRow B 5 1 v l.length (bl l)
theorem Rb.snoc {B : Nat} {v : Value} {l : List UInt8} {w : World} {x : UInt8} (h : w.ownsRow B 5 1 v (l.length + 1) (bl l ++ [.int .u8 (x.toNat : Int)])) : Rb B v (l ++ [x]) w := by
  have e : bl (l ++ [x]) = bl l ++ [.int .u8 (x.toNat : Int)] := by simp [bl]
  unfold Rb
  rw [e]
  simpa using h
theorem Rb.below {B : Nat} {v : Value} {l : List UInt8} {w w' : World} (h : Rb B v l w) (hb : Below w.heap.size w w') : Rb B v l w' := by
  refine ⟨h.1, ?_⟩
  rcases h.2 with hn | ⟨g, cap, cur, hv, hg, hh, rest⟩
  · exact .inl hn
  · exact .inr ⟨g, cap, cur, hv, hg, (hb.block _ (Array.getElem?_eq_some_iff.1 hh).1).trans hh, rest⟩
theorem Rb.nil (w : World) : Rb w.heap.size (.slice (some ⟨w.heap.size, 0, none⟩) 0 0) [] (w.alloc (.cells #[] 5)) :=
  ⟨rfl, .inr ⟨w.heap.size, 0, #[], rfl, Nat.le_refl _, Go.heap_alloc_new w _, Nat.le_refl _, Nat.zero_le _, rfl, rfl⟩⟩
theorem info5 : (Try.prog.info? 5).map (fun i => (i.zero, i.size, i.bytes)) = some (some (.int .u8 0), 1, 1) := by kernel_rfl
/-- 'l = append(l, x)' -/
theorem app_b {ops : Array Oper} {rest : List Oper} {o : Oper} {a : Act} {Q : Exit → Act → World → Prop} {w W : World} {v : Value} {l : List UInt8} (z : Int) (n : UInt8) (hz : z = (n.toNat : Int)) (s x : Operand) (hgd : o.guard = none)
    (ho : o.op = .call { callee := .builtin .append, args := #[s, x], argTypes := #[87, 87] }) (hs : a.eval s = v) (hx : a.eval x = .slice (some ⟨w.heap.size, 0, none⟩) 1 1)
    (hI : Rb W.heap.size v l w) (hb : Below W.heap.size W w) (hlen : l.length ≤ 10000000000000)
    (h : ∀ v' w', Rb W.heap.size v' (l ++ [n]) w' → Below W.heap.size W w' → wpList Try.prog ops Q rest (a.put o.dst v') w') : wpList Try.prog ops Q (o :: rest) a (w.alloc (.cells #[.int .u8 z] 5)) := by
  subst hz
  obtain ⟨i0, hi, hz0, hz1, hz2⟩ := info_parts info5
  have hI' := hI.below (Below.alloc (Below.refl _ _) (Nat.le_refl _) (.cells #[.int .u8 (n.toNat : Int)] 5))
  have hsz := hb.size
  refine wpList_append_own _ hgd s x 87 ho W.heap.size 5 i0 (.int .u8 0) 1 1 Try.underlying87 hi hz0 hz1 hz2 rfl (by decide) v l.length _ hs hI' ⟨w.heap.size, 0, none⟩ 1 1 [.int .u8 (n.toNat : Int)] hx rfl (World.news_of_block (Go.heap_alloc_new w _)) (by simp [Value.oneCell']) (by unfold maxLen; omega) (by omega) (by simp; omega) ?_
  intro v' w' h1 h2 _
  exact h v' w' (Rb.snoc h1) ((hb.alloc (by omega) _).grown h2 (by simp; omega) (fun g hk => (World.ownsRow.lt hI' g hk).1))
theorem conv_own {B : Nat} {v : Value} {l : List UInt8} {w : World} (h : Rb B v l w) (hl : l ≠ []) :
    (convert 87 9 v).run Try.prog w = .ok (.string ⟨l.toArray⟩) w := by
  have H := h
  rcases h.2 with ⟨rfl, h0⟩ | ⟨g, cap, cur, rfl, hg, hh, h1, h2, h3, _⟩
  · exact absurd (List.eq_nil_of_length_eq_zero h0) hl
  · refine run_convert_bytes_back w 87 9 5 _ cap l Try.underlying87 Try.underlying5 Try.underlying9 (fun j hj => ?_)
    exact World.ownsRow.cells H (g := g) rfl j (.int .u8 ((l[j]).toNat : Int)) (by simp [bl, hj])
theorem and255 (n : Nat) (h : n < 18446744073709551616) : bits .and .u64 (n : Int) 255 = ((UInt8.ofNat n).toNat : Int) := by
  have := u64_and_nat n 255 h (by decide)
  rw [show ((255 : Nat) : Int) = 255 from rfl, show (255 : Nat) = 2 ^ 8 - 1 from rfl, Nat.and_two_pow_sub_one_eq_mod] at this
  rw [this, UInt8.toNat_ofNat']
theorem u8_mod (b : UInt8) : ((b.toNat : Nat) : Int) % 256 = (b.toNat : Int) := by
  have := b.toNat_lt
  omega
set_option maxHeartbeats 16000000 in
theorem rbytes_any (x : Nat) (w : World) :
    Calls Try.prog 35 #[nv x] w fun e w' => e = .returned (.string ⟨(nb x).toArray⟩) ∧ Below w.heap.size w w' := by
  have HBW := Lib.hid ((Below.refl w.heap.size w).alloc (Nat.le_refl _) (.cells #[.int .u64 (lb x 0 : Nat), .int .u64 (lb x 1 : Nat), .int .u64 (lb x 2 : Nat), .int .u64 (lb x 3 : Nat)] 24))
  have K0 : Hid (Bk 24 (w.alloc (.cells #[.int .u64 (lb x 0 : Nat), .int .u64 (lb x 1 : Nat), .int .u64 (lb x 2 : Nat), .int .u64 (lb x 3 : Nat)] 24)) w.heap.size #[.int .u64 (lb x 0 : Nat), .int .u64 (lb x 1 : Nat), .int .u64 (lb x 2 : Nat), .int .u64 (lb x 3 : Nat)]) := Lib.hid (Bk.new rfl)
  simp only [nv, num]
  have hl0 := lb_lt x 0
  have hl1 := lb_lt x 1
  have hl2 := lb_lt x 2
  have hl3 := lb_lt x 3
  have HN : Hid (nb x = eight (lb x 3) ++ (eight (lb x 2) ++ (eight (lb x 1) ++ eight (lb x 0)))) := Lib.hid rfl
  generalize nb x = res at HN ⊢
  generalize lb x 0 = A0 at *
  generalize lb x 1 = A1 at *
  generalize lb x 2 = A2 at *
  generalize lb x 3 = A3 at *
  obtain ⟨b0, hb0⟩ : ∃ b, b = UInt8.ofNat (A3 / 72057594037927936) := ⟨_, rfl⟩
  have F0 : Hid (bits .and .u64 (((A3 : Nat) : Int) / 72057594037927936) 255 = (b0.toNat : Int)) := Lib.hid (by
    have := and255 (A3 / 72057594037927936) (by omega)
    rw [hb0, ← this]
    congr 1)
  obtain ⟨b1, hb1⟩ : ∃ b, b = UInt8.ofNat (A3 / 281474976710656) := ⟨_, rfl⟩
  have F1 : Hid (bits .and .u64 (((A3 : Nat) : Int) / 281474976710656) 255 = (b1.toNat : Int)) := Lib.hid (by
    have := and255 (A3 / 281474976710656) (by omega)
    rw [hb1, ← this]
    congr 1)
  obtain ⟨b2, hb2⟩ : ∃ b, b = UInt8.ofNat (A3 / 1099511627776) := ⟨_, rfl⟩
  have F2 : Hid (bits .and .u64 (((A3 : Nat) : Int) / 1099511627776) 255 = (b2.toNat : Int)) := Lib.hid (by
    have := and255 (A3 / 1099511627776) (by omega)
    rw [hb2, ← this]
    congr 1)
  obtain ⟨b3, hb3⟩ : ∃ b, b = UInt8.ofNat (A3 / 4294967296) := ⟨_, rfl⟩
  have F3 : Hid (bits .and .u64 (((A3 : Nat) : Int) / 4294967296) 255 = (b3.toNat : Int)) := Lib.hid (by
    have := and255 (A3 / 4294967296) (by omega)
    rw [hb3, ← this]
    congr 1)
  obtain ⟨b4, hb4⟩ : ∃ b, b = UInt8.ofNat (A3 / 16777216) := ⟨_, rfl⟩
  have F4 : Hid (bits .and .u64 (((A3 : Nat) : Int) / 16777216) 255 = (b4.toNat : Int)) := Lib.hid (by
    have := and255 (A3 / 16777216) (by omega)
    rw [hb4, ← this]
    congr 1)
  obtain ⟨b5, hb5⟩ : ∃ b, b = UInt8.ofNat (A3 / 65536) := ⟨_, rfl⟩
  have F5 : Hid (bits .and .u64 (((A3 : Nat) : Int) / 65536) 255 = (b5.toNat : Int)) := Lib.hid (by
    have := and255 (A3 / 65536) (by omega)
    rw [hb5, ← this]
    congr 1)
  obtain ⟨b6, hb6⟩ : ∃ b, b = UInt8.ofNat (A3 / 256) := ⟨_, rfl⟩
  have F6 : Hid (bits .and .u64 (((A3 : Nat) : Int) / 256) 255 = (b6.toNat : Int)) := Lib.hid (by
    have := and255 (A3 / 256) (by omega)
    rw [hb6, ← this]
    congr 1)
  obtain ⟨b7, hb7⟩ : ∃ b, b = UInt8.ofNat (A3) := ⟨_, rfl⟩
  have F7 : Hid (bits .and .u64 (((A3 : Nat) : Int)) 255 = (b7.toNat : Int)) := Lib.hid (by
    have := and255 (A3) (by omega)
    rw [hb7, ← this])
  obtain ⟨b8, hb8⟩ : ∃ b, b = UInt8.ofNat (A2 / 72057594037927936) := ⟨_, rfl⟩
  have F8 : Hid (bits .and .u64 (((A2 : Nat) : Int) / 72057594037927936) 255 = (b8.toNat : Int)) := Lib.hid (by
    have := and255 (A2 / 72057594037927936) (by omega)
    rw [hb8, ← this]
    congr 1)
  obtain ⟨b9, hb9⟩ : ∃ b, b = UInt8.ofNat (A2 / 281474976710656) := ⟨_, rfl⟩
  have F9 : Hid (bits .and .u64 (((A2 : Nat) : Int) / 281474976710656) 255 = (b9.toNat : Int)) := Lib.hid (by
    have := and255 (A2 / 281474976710656) (by omega)
    rw [hb9, ← this]
    congr 1)
  obtain ⟨b10, hb10⟩ : ∃ b, b = UInt8.ofNat (A2 / 1099511627776) := ⟨_, rfl⟩
  have F10 : Hid (bits .and .u64 (((A2 : Nat) : Int) / 1099511627776) 255 = (b10.toNat : Int)) := Lib.hid (by
    have := and255 (A2 / 1099511627776) (by omega)
    rw [hb10, ← this]
    congr 1)
  obtain ⟨b11, hb11⟩ : ∃ b, b = UInt8.ofNat (A2 / 4294967296) := ⟨_, rfl⟩
  have F11 : Hid (bits .and .u64 (((A2 : Nat) : Int) / 4294967296) 255 = (b11.toNat : Int)) := Lib.hid (by
    have := and255 (A2 / 4294967296) (by omega)
    rw [hb11, ← this]
    congr 1)
  obtain ⟨b12, hb12⟩ : ∃ b, b = UInt8.ofNat (A2 / 16777216) := ⟨_, rfl⟩
  have F12 : Hid (bits .and .u64 (((A2 : Nat) : Int) / 16777216) 255 = (b12.toNat : Int)) := Lib.hid (by
    have := and255 (A2 / 16777216) (by omega)
    rw [hb12, ← this]
    congr 1)
  obtain ⟨b13, hb13⟩ : ∃ b, b = UInt8.ofNat (A2 / 65536) := ⟨_, rfl⟩
  have F13 : Hid (bits .and .u64 (((A2 : Nat) : Int) / 65536) 255 = (b13.toNat : Int)) := Lib.hid (by
    have := and255 (A2 / 65536) (by omega)
    rw [hb13, ← this]
    congr 1)
  obtain ⟨b14, hb14⟩ : ∃ b, b = UInt8.ofNat (A2 / 256) := ⟨_, rfl⟩
  have F14 : Hid (bits .and .u64 (((A2 : Nat) : Int) / 256) 255 = (b14.toNat : Int)) := Lib.hid (by
    have := and255 (A2 / 256) (by omega)
    rw [hb14, ← this]
    congr 1)
  obtain ⟨b15, hb15⟩ : ∃ b, b = UInt8.ofNat (A2) := ⟨_, rfl⟩
  have F15 : Hid (bits .and .u64 (((A2 : Nat) : Int)) 255 = (b15.toNat : Int)) := Lib.hid (by
    have := and255 (A2) (by omega)
    rw [hb15, ← this])
  obtain ⟨b16, hb16⟩ : ∃ b, b = UInt8.ofNat (A1 / 72057594037927936) := ⟨_, rfl⟩
  have F16 : Hid (bits .and .u64 (((A1 : Nat) : Int) / 72057594037927936) 255 = (b16.toNat : Int)) := Lib.hid (by
    have := and255 (A1 / 72057594037927936) (by omega)
    rw [hb16, ← this]
    congr 1)
  obtain ⟨b17, hb17⟩ : ∃ b, b = UInt8.ofNat (A1 / 281474976710656) := ⟨_, rfl⟩
  have F17 : Hid (bits .and .u64 (((A1 : Nat) : Int) / 281474976710656) 255 = (b17.toNat : Int)) := Lib.hid (by
    have := and255 (A1 / 281474976710656) (by omega)
    rw [hb17, ← this]
    congr 1)
  obtain ⟨b18, hb18⟩ : ∃ b, b = UInt8.ofNat (A1 / 1099511627776) := ⟨_, rfl⟩
  have F18 : Hid (bits .and .u64 (((A1 : Nat) : Int) / 1099511627776) 255 = (b18.toNat : Int)) := Lib.hid (by
    have := and255 (A1 / 1099511627776) (by omega)
    rw [hb18, ← this]
    congr 1)
  obtain ⟨b19, hb19⟩ : ∃ b, b = UInt8.ofNat (A1 / 4294967296) := ⟨_, rfl⟩
  have F19 : Hid (bits .and .u64 (((A1 : Nat) : Int) / 4294967296) 255 = (b19.toNat : Int)) := Lib.hid (by
    have := and255 (A1 / 4294967296) (by omega)
    rw [hb19, ← this]
    congr 1)
  obtain ⟨b20, hb20⟩ : ∃ b, b = UInt8.ofNat (A1 / 16777216) := ⟨_, rfl⟩
  have F20 : Hid (bits .and .u64 (((A1 : Nat) : Int) / 16777216) 255 = (b20.toNat : Int)) := Lib.hid (by
    have := and255 (A1 / 16777216) (by omega)
    rw [hb20, ← this]
    congr 1)
  obtain ⟨b21, hb21⟩ : ∃ b, b = UInt8.ofNat (A1 / 65536) := ⟨_, rfl⟩
  have F21 : Hid (bits .and .u64 (((A1 : Nat) : Int) / 65536) 255 = (b21.toNat : Int)) := Lib.hid (by
    have := and255 (A1 / 65536) (by omega)
    rw [hb21, ← this]
    congr 1)
  obtain ⟨b22, hb22⟩ : ∃ b, b = UInt8.ofNat (A1 / 256) := ⟨_, rfl⟩
  have F22 : Hid (bits .and .u64 (((A1 : Nat) : Int) / 256) 255 = (b22.toNat : Int)) := Lib.hid (by
    have := and255 (A1 / 256) (by omega)
    rw [hb22, ← this]
    congr 1)
  obtain ⟨b23, hb23⟩ : ∃ b, b = UInt8.ofNat (A1) := ⟨_, rfl⟩
  have F23 : Hid (bits .and .u64 (((A1 : Nat) : Int)) 255 = (b23.toNat : Int)) := Lib.hid (by
    have := and255 (A1) (by omega)
    rw [hb23, ← this])
  obtain ⟨b24, hb24⟩ : ∃ b, b = UInt8.ofNat (A0 / 72057594037927936) := ⟨_, rfl⟩
  have F24 : Hid (bits .and .u64 (((A0 : Nat) : Int) / 72057594037927936) 255 = (b24.toNat : Int)) := Lib.hid (by
    have := and255 (A0 / 72057594037927936) (by omega)
    rw [hb24, ← this]
    congr 1)
  obtain ⟨b25, hb25⟩ : ∃ b, b = UInt8.ofNat (A0 / 281474976710656) := ⟨_, rfl⟩
  have F25 : Hid (bits .and .u64 (((A0 : Nat) : Int) / 281474976710656) 255 = (b25.toNat : Int)) := Lib.hid (by
    have := and255 (A0 / 281474976710656) (by omega)
    rw [hb25, ← this]
    congr 1)
  obtain ⟨b26, hb26⟩ : ∃ b, b = UInt8.ofNat (A0 / 1099511627776) := ⟨_, rfl⟩
  have F26 : Hid (bits .and .u64 (((A0 : Nat) : Int) / 1099511627776) 255 = (b26.toNat : Int)) := Lib.hid (by
    have := and255 (A0 / 1099511627776) (by omega)
    rw [hb26, ← this]
    congr 1)
  obtain ⟨b27, hb27⟩ : ∃ b, b = UInt8.ofNat (A0 / 4294967296) := ⟨_, rfl⟩
  have F27 : Hid (bits .and .u64 (((A0 : Nat) : Int) / 4294967296) 255 = (b27.toNat : Int)) := Lib.hid (by
    have := and255 (A0 / 4294967296) (by omega)
    rw [hb27, ← this]
    congr 1)
  obtain ⟨b28, hb28⟩ : ∃ b, b = UInt8.ofNat (A0 / 16777216) := ⟨_, rfl⟩
  have F28 : Hid (bits .and .u64 (((A0 : Nat) : Int) / 16777216) 255 = (b28.toNat : Int)) := Lib.hid (by
    have := and255 (A0 / 16777216) (by omega)
    rw [hb28, ← this]
    congr 1)
  obtain ⟨b29, hb29⟩ : ∃ b, b = UInt8.ofNat (A0 / 65536) := ⟨_, rfl⟩
  have F29 : Hid (bits .and .u64 (((A0 : Nat) : Int) / 65536) 255 = (b29.toNat : Int)) := Lib.hid (by
    have := and255 (A0 / 65536) (by omega)
    rw [hb29, ← this]
    congr 1)
  obtain ⟨b30, hb30⟩ : ∃ b, b = UInt8.ofNat (A0 / 256) := ⟨_, rfl⟩
  have F30 : Hid (bits .and .u64 (((A0 : Nat) : Int) / 256) 255 = (b30.toNat : Int)) := Lib.hid (by
    have := and255 (A0 / 256) (by omega)
    rw [hb30, ← this]
    congr 1)
  obtain ⟨b31, hb31⟩ : ∃ b, b = UInt8.ofNat (A0) := ⟨_, rfl⟩
  have F31 : Hid (bits .and .u64 (((A0 : Nat) : Int)) 255 = (b31.toNat : Int)) := Lib.hid (by
    have := and255 (A0) (by omega)
    rw [hb31, ← this])
  have HR : Hid (res = [b0, b1, b2, b3, b4, b5, b6, b7, b8, b9, b10, b11, b12, b13, b14, b15, b16, b17, b18, b19, b20, b21, b22, b23, b24, b25, b26, b27, b28, b29, b30, b31]) := Lib.hid (by rw [HN.out, hb0, hb1, hb2, hb3, hb4, hb5, hb6, hb7, hb8, hb9, hb10, hb11, hb12, hb13, hb14, hb15, hb16, hb17, hb18, hb19, hb20, hb21, hb22, hb23, hb24, hb25, hb26, hb27, hb28, hb29, hb30, hb31]; rfl)
  clear HN hl0 hl1 hl2 hl3 hb0 hb1 hb2 hb3 hb4 hb5 hb6 hb7 hb8 hb9 hb10 hb11 hb12 hb13 hb14 hb15 hb16 hb17 hb18 hb19 hb20 hb21 hb22 hb23 hb24 hb25 hb26 hb27 hb28 hb29 hb30 hb31
  go_enter Try.func35, Try.ntmps35
  go_wp2_with fail
  have HR0 := Lib.hid (Rb.nil (w.alloc (.cells #[.int .u64 (A0 : Nat), .int .u64 (A1 : Nat), .int .u64 (A2 : Nat), .int .u64 (A3 : Nat)] 24)))
  have HB0 : Hid (Below (w.alloc (.cells #[.int .u64 (A0 : Nat), .int .u64 (A1 : Nat), .int .u64 (A2 : Nat), .int .u64 (A3 : Nat)] 24)).heap.size (w.alloc (.cells #[.int .u64 (A0 : Nat), .int .u64 (A1 : Nat), .int .u64 (A2 : Nat), .int .u64 (A3 : Nat)] 24)) ((w.alloc (.cells #[.int .u64 (A0 : Nat), .int .u64 (A1 : Nat), .int .u64 (A2 : Nat), .int .u64 (A3 : Nat)] 24)).alloc (.cells #[] 5))) := Lib.hid ((Below.refl _ _).alloc (Nat.le_refl _) _)
  generalize hW : (w.alloc (.cells #[.int .u64 (A0 : Nat), .int .u64 (A1 : Nat), .int .u64 (A2 : Nat), .int .u64 (A3 : Nat)] 24)) = W at *
  have hWs : W.heap.size = w.heap.size + 1 := by rw [← hW]; simp
  rw [← hWs]
  have HWS := Lib.hid hWs
  clear hWs hW
  generalize (Value.slice (some ⟨W.heap.size, 0, none⟩) 0 0) = v0 at HR0 ⊢
  generalize W.alloc (.cells #[] 5) = w0 at HR0 HB0 ⊢
  refine wp_loop_rounds 5 ?_
  rw [rounds_succ]
  go_wp2_with fail
  refine wp_loop_rounds 9 ?_
  have ic : w0.cell? ⟨w.heap.size, 3, none⟩ = some (.int .u64 (A3 : Nat)) := (HB0.out.cell (p := ⟨w.heap.size, 3, none⟩) K0.out.lt).trans (K0.out.cell 3)
  have f1 := F0.out
  have f2 := u8_mod b0
  rw [rounds_succ]
  go_wp2_with (at_builtin; refine app_b _ b0 rfl (.tmp 15) (.tmp 23) rfl rfl rfl rfl HR0.out HB0.out (by simp) ?_; intro v1 w1 hr hb; have HR1 := Lib.hid hr; have HB1 := Lib.hid hb; clear hr hb ic f1 f2 HR0 HB0)
  have ic : w1.cell? ⟨w.heap.size, 3, none⟩ = some (.int .u64 (A3 : Nat)) := (HB1.out.cell (p := ⟨w.heap.size, 3, none⟩) K0.out.lt).trans (K0.out.cell 3)
  have f1 := F1.out
  have f2 := u8_mod b1
  rw [rounds_succ]
  go_wp2_with (at_builtin; refine app_b _ b1 rfl (.tmp 15) (.tmp 23) rfl rfl rfl rfl HR1.out HB1.out (by simp) ?_; intro v2 w2 hr hb; have HR2 := Lib.hid hr; have HB2 := Lib.hid hb; clear hr hb ic f1 f2 HR1 HB1)
  have ic : w2.cell? ⟨w.heap.size, 3, none⟩ = some (.int .u64 (A3 : Nat)) := (HB2.out.cell (p := ⟨w.heap.size, 3, none⟩) K0.out.lt).trans (K0.out.cell 3)
  have f1 := F2.out
  have f2 := u8_mod b2
  rw [rounds_succ]
  go_wp2_with (at_builtin; refine app_b _ b2 rfl (.tmp 15) (.tmp 23) rfl rfl rfl rfl HR2.out HB2.out (by simp) ?_; intro v3 w3 hr hb; have HR3 := Lib.hid hr; have HB3 := Lib.hid hb; clear hr hb ic f1 f2 HR2 HB2)
  have ic : w3.cell? ⟨w.heap.size, 3, none⟩ = some (.int .u64 (A3 : Nat)) := (HB3.out.cell (p := ⟨w.heap.size, 3, none⟩) K0.out.lt).trans (K0.out.cell 3)
  have f1 := F3.out
  have f2 := u8_mod b3
  rw [rounds_succ]
  go_wp2_with (at_builtin; refine app_b _ b3 rfl (.tmp 15) (.tmp 23) rfl rfl rfl rfl HR3.out HB3.out (by simp) ?_; intro v4 w4 hr hb; have HR4 := Lib.hid hr; have HB4 := Lib.hid hb; clear hr hb ic f1 f2 HR3 HB3)
  have ic : w4.cell? ⟨w.heap.size, 3, none⟩ = some (.int .u64 (A3 : Nat)) := (HB4.out.cell (p := ⟨w.heap.size, 3, none⟩) K0.out.lt).trans (K0.out.cell 3)
  have f1 := F4.out
  have f2 := u8_mod b4
  rw [rounds_succ]
  go_wp2_with (at_builtin; refine app_b _ b4 rfl (.tmp 15) (.tmp 23) rfl rfl rfl rfl HR4.out HB4.out (by simp) ?_; intro v5 w5 hr hb; have HR5 := Lib.hid hr; have HB5 := Lib.hid hb; clear hr hb ic f1 f2 HR4 HB4)
  have ic : w5.cell? ⟨w.heap.size, 3, none⟩ = some (.int .u64 (A3 : Nat)) := (HB5.out.cell (p := ⟨w.heap.size, 3, none⟩) K0.out.lt).trans (K0.out.cell 3)
  have f1 := F5.out
  have f2 := u8_mod b5
  rw [rounds_succ]
  go_wp2_with (at_builtin; refine app_b _ b5 rfl (.tmp 15) (.tmp 23) rfl rfl rfl rfl HR5.out HB5.out (by simp) ?_; intro v6 w6 hr hb; have HR6 := Lib.hid hr; have HB6 := Lib.hid hb; clear hr hb ic f1 f2 HR5 HB5)
  have ic : w6.cell? ⟨w.heap.size, 3, none⟩ = some (.int .u64 (A3 : Nat)) := (HB6.out.cell (p := ⟨w.heap.size, 3, none⟩) K0.out.lt).trans (K0.out.cell 3)
  have f1 := F6.out
  have f2 := u8_mod b6
  rw [rounds_succ]
  go_wp2_with (at_builtin; refine app_b _ b6 rfl (.tmp 15) (.tmp 23) rfl rfl rfl rfl HR6.out HB6.out (by simp) ?_; intro v7 w7 hr hb; have HR7 := Lib.hid hr; have HB7 := Lib.hid hb; clear hr hb ic f1 f2 HR6 HB6)
  have ic : w7.cell? ⟨w.heap.size, 3, none⟩ = some (.int .u64 (A3 : Nat)) := (HB7.out.cell (p := ⟨w.heap.size, 3, none⟩) K0.out.lt).trans (K0.out.cell 3)
  have f1 := F7.out
  have f2 := u8_mod b7
  rw [rounds_succ]
  go_wp2_with (at_builtin; refine app_b _ b7 rfl (.tmp 15) (.tmp 23) rfl rfl rfl rfl HR7.out HB7.out (by simp) ?_; intro v8 w8 hr hb; have HR8 := Lib.hid hr; have HB8 := Lib.hid hb; clear hr hb ic f1 f2 HR7 HB7)
  rw [rounds_succ]
  go_wp2_with fail
  rw [rounds_succ]
  go_wp2_with fail
  refine wp_loop_rounds 9 ?_
  have ic : w8.cell? ⟨w.heap.size, 2, none⟩ = some (.int .u64 (A2 : Nat)) := (HB8.out.cell (p := ⟨w.heap.size, 2, none⟩) K0.out.lt).trans (K0.out.cell 2)
  have f1 := F8.out
  have f2 := u8_mod b8
  rw [rounds_succ]
  go_wp2_with (at_builtin; refine app_b _ b8 rfl (.tmp 15) (.tmp 23) rfl rfl rfl rfl HR8.out HB8.out (by simp) ?_; intro v9 w9 hr hb; have HR9 := Lib.hid hr; have HB9 := Lib.hid hb; clear hr hb ic f1 f2 HR8 HB8)
  have ic : w9.cell? ⟨w.heap.size, 2, none⟩ = some (.int .u64 (A2 : Nat)) := (HB9.out.cell (p := ⟨w.heap.size, 2, none⟩) K0.out.lt).trans (K0.out.cell 2)
  have f1 := F9.out
  have f2 := u8_mod b9
  rw [rounds_succ]
  go_wp2_with (at_builtin; refine app_b _ b9 rfl (.tmp 15) (.tmp 23) rfl rfl rfl rfl HR9.out HB9.out (by simp) ?_; intro v10 w10 hr hb; have HR10 := Lib.hid hr; have HB10 := Lib.hid hb; clear hr hb ic f1 f2 HR9 HB9)
  have ic : w10.cell? ⟨w.heap.size, 2, none⟩ = some (.int .u64 (A2 : Nat)) := (HB10.out.cell (p := ⟨w.heap.size, 2, none⟩) K0.out.lt).trans (K0.out.cell 2)
  have f1 := F10.out
  have f2 := u8_mod b10
  rw [rounds_succ]
  go_wp2_with (at_builtin; refine app_b _ b10 rfl (.tmp 15) (.tmp 23) rfl rfl rfl rfl HR10.out HB10.out (by simp) ?_; intro v11 w11 hr hb; have HR11 := Lib.hid hr; have HB11 := Lib.hid hb; clear hr hb ic f1 f2 HR10 HB10)
  have ic : w11.cell? ⟨w.heap.size, 2, none⟩ = some (.int .u64 (A2 : Nat)) := (HB11.out.cell (p := ⟨w.heap.size, 2, none⟩) K0.out.lt).trans (K0.out.cell 2)
  have f1 := F11.out
  have f2 := u8_mod b11
  rw [rounds_succ]
  go_wp2_with (at_builtin; refine app_b _ b11 rfl (.tmp 15) (.tmp 23) rfl rfl rfl rfl HR11.out HB11.out (by simp) ?_; intro v12 w12 hr hb; have HR12 := Lib.hid hr; have HB12 := Lib.hid hb; clear hr hb ic f1 f2 HR11 HB11)
  have ic : w12.cell? ⟨w.heap.size, 2, none⟩ = some (.int .u64 (A2 : Nat)) := (HB12.out.cell (p := ⟨w.heap.size, 2, none⟩) K0.out.lt).trans (K0.out.cell 2)
  have f1 := F12.out
  have f2 := u8_mod b12
  rw [rounds_succ]
  go_wp2_with (at_builtin; refine app_b _ b12 rfl (.tmp 15) (.tmp 23) rfl rfl rfl rfl HR12.out HB12.out (by simp) ?_; intro v13 w13 hr hb; have HR13 := Lib.hid hr; have HB13 := Lib.hid hb; clear hr hb ic f1 f2 HR12 HB12)
  have ic : w13.cell? ⟨w.heap.size, 2, none⟩ = some (.int .u64 (A2 : Nat)) := (HB13.out.cell (p := ⟨w.heap.size, 2, none⟩) K0.out.lt).trans (K0.out.cell 2)
  have f1 := F13.out
  have f2 := u8_mod b13
  rw [rounds_succ]
  go_wp2_with (at_builtin; refine app_b _ b13 rfl (.tmp 15) (.tmp 23) rfl rfl rfl rfl HR13.out HB13.out (by simp) ?_; intro v14 w14 hr hb; have HR14 := Lib.hid hr; have HB14 := Lib.hid hb; clear hr hb ic f1 f2 HR13 HB13)
  have ic : w14.cell? ⟨w.heap.size, 2, none⟩ = some (.int .u64 (A2 : Nat)) := (HB14.out.cell (p := ⟨w.heap.size, 2, none⟩) K0.out.lt).trans (K0.out.cell 2)
  have f1 := F14.out
  have f2 := u8_mod b14
  rw [rounds_succ]
  go_wp2_with (at_builtin; refine app_b _ b14 rfl (.tmp 15) (.tmp 23) rfl rfl rfl rfl HR14.out HB14.out (by simp) ?_; intro v15 w15 hr hb; have HR15 := Lib.hid hr; have HB15 := Lib.hid hb; clear hr hb ic f1 f2 HR14 HB14)
  have ic : w15.cell? ⟨w.heap.size, 2, none⟩ = some (.int .u64 (A2 : Nat)) := (HB15.out.cell (p := ⟨w.heap.size, 2, none⟩) K0.out.lt).trans (K0.out.cell 2)
  have f1 := F15.out
  have f2 := u8_mod b15
  rw [rounds_succ]
  go_wp2_with (at_builtin; refine app_b _ b15 rfl (.tmp 15) (.tmp 23) rfl rfl rfl rfl HR15.out HB15.out (by simp) ?_; intro v16 w16 hr hb; have HR16 := Lib.hid hr; have HB16 := Lib.hid hb; clear hr hb ic f1 f2 HR15 HB15)
  rw [rounds_succ]
  go_wp2_with fail
  rw [rounds_succ]
  go_wp2_with fail
  refine wp_loop_rounds 9 ?_
  have ic : w16.cell? ⟨w.heap.size, 1, none⟩ = some (.int .u64 (A1 : Nat)) := (HB16.out.cell (p := ⟨w.heap.size, 1, none⟩) K0.out.lt).trans (K0.out.cell 1)
  have f1 := F16.out
  have f2 := u8_mod b16
  rw [rounds_succ]
  go_wp2_with (at_builtin; refine app_b _ b16 rfl (.tmp 15) (.tmp 23) rfl rfl rfl rfl HR16.out HB16.out (by simp) ?_; intro v17 w17 hr hb; have HR17 := Lib.hid hr; have HB17 := Lib.hid hb; clear hr hb ic f1 f2 HR16 HB16)
  have ic : w17.cell? ⟨w.heap.size, 1, none⟩ = some (.int .u64 (A1 : Nat)) := (HB17.out.cell (p := ⟨w.heap.size, 1, none⟩) K0.out.lt).trans (K0.out.cell 1)
  have f1 := F17.out
  have f2 := u8_mod b17
  rw [rounds_succ]
  go_wp2_with (at_builtin; refine app_b _ b17 rfl (.tmp 15) (.tmp 23) rfl rfl rfl rfl HR17.out HB17.out (by simp) ?_; intro v18 w18 hr hb; have HR18 := Lib.hid hr; have HB18 := Lib.hid hb; clear hr hb ic f1 f2 HR17 HB17)
  have ic : w18.cell? ⟨w.heap.size, 1, none⟩ = some (.int .u64 (A1 : Nat)) := (HB18.out.cell (p := ⟨w.heap.size, 1, none⟩) K0.out.lt).trans (K0.out.cell 1)
  have f1 := F18.out
  have f2 := u8_mod b18
  rw [rounds_succ]
  go_wp2_with (at_builtin; refine app_b _ b18 rfl (.tmp 15) (.tmp 23) rfl rfl rfl rfl HR18.out HB18.out (by simp) ?_; intro v19 w19 hr hb; have HR19 := Lib.hid hr; have HB19 := Lib.hid hb; clear hr hb ic f1 f2 HR18 HB18)
  have ic : w19.cell? ⟨w.heap.size, 1, none⟩ = some (.int .u64 (A1 : Nat)) := (HB19.out.cell (p := ⟨w.heap.size, 1, none⟩) K0.out.lt).trans (K0.out.cell 1)
  have f1 := F19.out
  have f2 := u8_mod b19
  rw [rounds_succ]
  go_wp2_with (at_builtin; refine app_b _ b19 rfl (.tmp 15) (.tmp 23) rfl rfl rfl rfl HR19.out HB19.out (by simp) ?_; intro v20 w20 hr hb; have HR20 := Lib.hid hr; have HB20 := Lib.hid hb; clear hr hb ic f1 f2 HR19 HB19)
  have ic : w20.cell? ⟨w.heap.size, 1, none⟩ = some (.int .u64 (A1 : Nat)) := (HB20.out.cell (p := ⟨w.heap.size, 1, none⟩) K0.out.lt).trans (K0.out.cell 1)
  have f1 := F20.out
  have f2 := u8_mod b20
  rw [rounds_succ]
  go_wp2_with (at_builtin; refine app_b _ b20 rfl (.tmp 15) (.tmp 23) rfl rfl rfl rfl HR20.out HB20.out (by simp) ?_; intro v21 w21 hr hb; have HR21 := Lib.hid hr; have HB21 := Lib.hid hb; clear hr hb ic f1 f2 HR20 HB20)
  have ic : w21.cell? ⟨w.heap.size, 1, none⟩ = some (.int .u64 (A1 : Nat)) := (HB21.out.cell (p := ⟨w.heap.size, 1, none⟩) K0.out.lt).trans (K0.out.cell 1)
  have f1 := F21.out
  have f2 := u8_mod b21
  rw [rounds_succ]
  go_wp2_with (at_builtin; refine app_b _ b21 rfl (.tmp 15) (.tmp 23) rfl rfl rfl rfl HR21.out HB21.out (by simp) ?_; intro v22 w22 hr hb; have HR22 := Lib.hid hr; have HB22 := Lib.hid hb; clear hr hb ic f1 f2 HR21 HB21)
  have ic : w22.cell? ⟨w.heap.size, 1, none⟩ = some (.int .u64 (A1 : Nat)) := (HB22.out.cell (p := ⟨w.heap.size, 1, none⟩) K0.out.lt).trans (K0.out.cell 1)
  have f1 := F22.out
  have f2 := u8_mod b22
  rw [rounds_succ]
  go_wp2_with (at_builtin; refine app_b _ b22 rfl (.tmp 15) (.tmp 23) rfl rfl rfl rfl HR22.out HB22.out (by simp) ?_; intro v23 w23 hr hb; have HR23 := Lib.hid hr; have HB23 := Lib.hid hb; clear hr hb ic f1 f2 HR22 HB22)
  have ic : w23.cell? ⟨w.heap.size, 1, none⟩ = some (.int .u64 (A1 : Nat)) := (HB23.out.cell (p := ⟨w.heap.size, 1, none⟩) K0.out.lt).trans (K0.out.cell 1)
  have f1 := F23.out
  have f2 := u8_mod b23
  rw [rounds_succ]
  go_wp2_with (at_builtin; refine app_b _ b23 rfl (.tmp 15) (.tmp 23) rfl rfl rfl rfl HR23.out HB23.out (by simp) ?_; intro v24 w24 hr hb; have HR24 := Lib.hid hr; have HB24 := Lib.hid hb; clear hr hb ic f1 f2 HR23 HB23)
  rw [rounds_succ]
  go_wp2_with fail
  rw [rounds_succ]
  go_wp2_with fail
  refine wp_loop_rounds 9 ?_
  have ic : w24.cell? ⟨w.heap.size, 0, none⟩ = some (.int .u64 (A0 : Nat)) := (HB24.out.cell (p := ⟨w.heap.size, 0, none⟩) K0.out.lt).trans (K0.out.cell 0)
  have f1 := F24.out
  have f2 := u8_mod b24
  rw [rounds_succ]
  go_wp2_with (at_builtin; refine app_b _ b24 rfl (.tmp 15) (.tmp 23) rfl rfl rfl rfl HR24.out HB24.out (by simp) ?_; intro v25 w25 hr hb; have HR25 := Lib.hid hr; have HB25 := Lib.hid hb; clear hr hb ic f1 f2 HR24 HB24)
  have ic : w25.cell? ⟨w.heap.size, 0, none⟩ = some (.int .u64 (A0 : Nat)) := (HB25.out.cell (p := ⟨w.heap.size, 0, none⟩) K0.out.lt).trans (K0.out.cell 0)
  have f1 := F25.out
  have f2 := u8_mod b25
  rw [rounds_succ]
  go_wp2_with (at_builtin; refine app_b _ b25 rfl (.tmp 15) (.tmp 23) rfl rfl rfl rfl HR25.out HB25.out (by simp) ?_; intro v26 w26 hr hb; have HR26 := Lib.hid hr; have HB26 := Lib.hid hb; clear hr hb ic f1 f2 HR25 HB25)
  have ic : w26.cell? ⟨w.heap.size, 0, none⟩ = some (.int .u64 (A0 : Nat)) := (HB26.out.cell (p := ⟨w.heap.size, 0, none⟩) K0.out.lt).trans (K0.out.cell 0)
  have f1 := F26.out
  have f2 := u8_mod b26
  rw [rounds_succ]
  go_wp2_with (at_builtin; refine app_b _ b26 rfl (.tmp 15) (.tmp 23) rfl rfl rfl rfl HR26.out HB26.out (by simp) ?_; intro v27 w27 hr hb; have HR27 := Lib.hid hr; have HB27 := Lib.hid hb; clear hr hb ic f1 f2 HR26 HB26)
  have ic : w27.cell? ⟨w.heap.size, 0, none⟩ = some (.int .u64 (A0 : Nat)) := (HB27.out.cell (p := ⟨w.heap.size, 0, none⟩) K0.out.lt).trans (K0.out.cell 0)
  have f1 := F27.out
  have f2 := u8_mod b27
  rw [rounds_succ]
  go_wp2_with (at_builtin; refine app_b _ b27 rfl (.tmp 15) (.tmp 23) rfl rfl rfl rfl HR27.out HB27.out (by simp) ?_; intro v28 w28 hr hb; have HR28 := Lib.hid hr; have HB28 := Lib.hid hb; clear hr hb ic f1 f2 HR27 HB27)
  have ic : w28.cell? ⟨w.heap.size, 0, none⟩ = some (.int .u64 (A0 : Nat)) := (HB28.out.cell (p := ⟨w.heap.size, 0, none⟩) K0.out.lt).trans (K0.out.cell 0)
  have f1 := F28.out
  have f2 := u8_mod b28
  rw [rounds_succ]
  go_wp2_with (at_builtin; refine app_b _ b28 rfl (.tmp 15) (.tmp 23) rfl rfl rfl rfl HR28.out HB28.out (by simp) ?_; intro v29 w29 hr hb; have HR29 := Lib.hid hr; have HB29 := Lib.hid hb; clear hr hb ic f1 f2 HR28 HB28)
  have ic : w29.cell? ⟨w.heap.size, 0, none⟩ = some (.int .u64 (A0 : Nat)) := (HB29.out.cell (p := ⟨w.heap.size, 0, none⟩) K0.out.lt).trans (K0.out.cell 0)
  have f1 := F29.out
  have f2 := u8_mod b29
  rw [rounds_succ]
  go_wp2_with (at_builtin; refine app_b _ b29 rfl (.tmp 15) (.tmp 23) rfl rfl rfl rfl HR29.out HB29.out (by simp) ?_; intro v30 w30 hr hb; have HR30 := Lib.hid hr; have HB30 := Lib.hid hb; clear hr hb ic f1 f2 HR29 HB29)
  have ic : w30.cell? ⟨w.heap.size, 0, none⟩ = some (.int .u64 (A0 : Nat)) := (HB30.out.cell (p := ⟨w.heap.size, 0, none⟩) K0.out.lt).trans (K0.out.cell 0)
  have f1 := F30.out
  have f2 := u8_mod b30
  rw [rounds_succ]
  go_wp2_with (at_builtin; refine app_b _ b30 rfl (.tmp 15) (.tmp 23) rfl rfl rfl rfl HR30.out HB30.out (by simp) ?_; intro v31 w31 hr hb; have HR31 := Lib.hid hr; have HB31 := Lib.hid hb; clear hr hb ic f1 f2 HR30 HB30)
  have ic : w31.cell? ⟨w.heap.size, 0, none⟩ = some (.int .u64 (A0 : Nat)) := (HB31.out.cell (p := ⟨w.heap.size, 0, none⟩) K0.out.lt).trans (K0.out.cell 0)
  have f1 := F31.out
  have f2 := u8_mod b31
  rw [rounds_succ]
  go_wp2_with (at_builtin; refine app_b _ b31 rfl (.tmp 15) (.tmp 23) rfl rfl rfl rfl HR31.out HB31.out (by simp) ?_; intro v32 w32 hr hb; have HR32 := Lib.hid hr; have HB32 := Lib.hid hb; clear hr hb ic f1 f2 HR31 HB31)
  rw [rounds_succ]
  go_wp2_with fail
  rw [rounds_succ]
  have hc := conv_own HR32.out (by simp)
  go_wp2_with fail
  go_ret
  exact ⟨by rw [HR.out]; rfl, HBW.out.trans (HB32.out.mono (by rw [HWS.out]; omega))⟩
end Go.Proofs.Ytglmmodkflkkkaa.Ref
set_option linter.unusedVariables false
set_option linter.unusedSimpArgs false
set_option maxRecDepth 100000
namespace Go.Proofs.Ytglmmodkflkkkaa.Ref
open Go.RowKit Go.Proofs.Ytglmmodkflkkkaa.Digits Limbs

/-- bytes, the lowest first, as digits of sixteen bits -/
def rd : List UInt8 → List Nat
  | [] => []
  | [a] => [a.toNat]
  | a :: b :: r => (a.toNat + 256 * b.toNat) :: rd r
theorem rd_len : ∀ t : List UInt8, (rd t).length = (t.length + 1) / 2
  | [] => rfl
  | [a] => by simp [rd]
  | a :: b :: r => by
    have := rd_len r
    simp only [rd, List.length_cons, this]
    omega
theorem rd_dig : ∀ t : List UInt8, Dig (rd t)
  | [] => by intro x hx; cases hx
  | [a] => by
    intro x hx
    have := a.toNat_lt
    simp only [rd, List.mem_singleton] at hx
    omega
  | a :: b :: r => by
    intro x hx
    have ha := a.toNat_lt
    have hb := b.toNat_lt
    simp only [rd, List.mem_cons] at hx
    rcases hx with rfl | hx
    · omega
    · exact rd_dig r x hx
/-- the last byte, where their number is odd -/
def lastB : List UInt8 → Nat
  | [] => 0
  | [a] => a.toNat
  | _ :: _ :: r => lastB r
theorem lastB_lt : ∀ t : List UInt8, lastB t < 256
  | [] => by decide
  | [a] => a.toNat_lt
  | _ :: _ :: r => lastB_lt r
theorem rd_even : ∀ (t : List UInt8) (b : UInt8), t.length % 2 = 0 → rd (t ++ [b]) = rd t ++ [b.toNat]
  | [], b, _ => rfl
  | [a], b, h => by simp at h
  | a :: c :: r, b, h => by
    have := rd_even r b (by simp only [List.length_cons] at h; omega)
    simp only [List.cons_append, rd, this]
theorem rd_odd : ∀ (t : List UInt8) (b : UInt8), t.length % 2 = 1 → (rd t)[t.length / 2]? = some (lastB t) ∧ rd (t ++ [b]) = (rd t).set (t.length / 2) (lastB t + 256 * b.toNat)
  | [], b, h => by simp at h
  | [a], b, _ => ⟨by simp [rd, lastB], by simp [rd, lastB]⟩
  | a :: c :: r, b, h => by
    have hr : r.length % 2 = 1 := by simp only [List.length_cons] at h; omega
    have e : (a :: c :: r).length / 2 = r.length / 2 + 1 := by simp only [List.length_cons]; omega
    obtain ⟨h1, h2⟩ := rd_odd r b hr
    rw [e]
    refine ⟨by simp only [rd, List.getElem?_cons_succ, lastB, h1], ?_⟩
    simp only [List.cons_append, rd, h2, List.set_cons_succ, lastB]
theorem rd_set {t : List UInt8} {b : UInt8} (h : t.length % 2 = 0) : (rd t ++ [0]).set (t.length / 2) b.toNat = rd (t ++ [b]) := by
  rw [rd_even t b h]
  have hl := rd_len t
  have e : t.length / 2 = (rd t).length := by omega
  rw [e, List.set_append_right _ _ (Nat.le_refl _)]
  simp
theorem bv_cons (a : UInt8) (l : List UInt8) : bv (l ++ [a]) = a.toNat + 256 * bv l := by
  rw [bv_snoc]; omega
theorem rd_val : ∀ t : List UInt8, val (rd t) = bv t.reverse
  | [] => rfl
  | [a] => by simp [rd, val, bv]
  | a :: b :: r => by
    rw [List.reverse_cons, List.reverse_cons, bv_cons, bv_cons, rd, val, rd_val r]
    omega
theorem Rd.set {B : Nat} {g n cap : Nat} {l : List Nat} {w : World} (h : Rd B (.slice (some ⟨g, 0, none⟩) n cap) l w) (j x : Nat) (hj : j < l.length) : Rd B (.slice (some ⟨g, 0, none⟩) n cap) (l.set j x) (w.setCell ⟨g, j, none⟩ (.int .u32 ((x : Nat) : Int))) := by
  have H := h
  have hl := h.1
  rcases h.2 with ⟨hv, _⟩ | ⟨g', cap', cur, hv, hg, hh, h1, h2, h3, h4⟩
  · cases hv
  · injection hv with e1 e2 e3
    injection e1 with e1
    injection e1 with e1
    subst e1
    subst e3
    have e5 : cd (l.set j x) = (cd l).set j (.int .u32 ((x : Nat) : Int)) := by simp [cd, List.map_set]
    refine ⟨by rw [List.length_set, e5, List.length_set]; exact hl, .inr ⟨g, cap, cur.setIfInBounds j (.int .u32 ((x : Nat) : Int)), by rw [List.length_set]; rw [← e2], hg, heap_setCell_same w g j cur 75 _ hh, by rw [List.length_set]; exact h1, h2, by simpa using h3, ?_⟩⟩
    rw [List.length_set, e5, ← h4, Array.toList_setIfInBounds, List.take_set]
noncomputable def rd8O0 : Array Oper := (Try.f32.body.bind fun c => findR c 8).getD #[]
set_option maxHeartbeats 8000000 in
theorem rd80 (s : List UInt8) (g n cap q k i x b : Nat) (hi : i < s.length) (hb : (s[i]).toNat = b) (hs : s.length ≤ 10000000000000) (hk : Int.tdiv (k : Int) 2 = (q : Int)) (hr : Int.tmod (k : Int) 2 = 0) (hq : q < n) (hn : n ≤ cap) (hc : cap ≤ 9223372036854775807) (w : World) (ic : w.cell? ⟨g, q, none⟩ = some (.int .u32 0)) (fo : w.frozen? ⟨g, q, none⟩ = false)
    {t1 t2 t6 t7 t8 t9 t10 t11 t12 t13 t14 t15 t16 t17 t18 t19 t20 t21 t22 t23 t24 t25 t26 t27 t28 t29 t30 t31 t32 t33 t34 t35 t36 t37 t38 t39 t40 t41 : Value} {ds : List Deferred} {Q : Exit → Act → World → Prop}
    (h : ∀ (x25 x26 x27 x28 x29 x30 x31 x32 x33 x34 x35 x36 x37 x38 x39 : Value) (w' wm : World), Sm w wm → w' = wm.setCell ⟨g, q, none⟩ (.int .u32 ((b : Nat) : Int)) → Q .normal { tmps := #[.string ⟨s.toArray⟩, t1, t2, .slice (some ⟨g, 0, none⟩) n cap, .int .i64 (i : Int), .int .i64 (k : Int), t6, t7, t8, t9, t10, t11, t12, t13, t14, t15, t16, t17, t18, t19, t20, t21, t22, t23, t24, x25, x26, x27, x28, x29, x30, x31, x32, x33, x34, x35, x36, x37, x38, x39, t40, t41], defers := ds } w') :
    (Code.region 8 rd8O0 true).wp Try.prog Q { tmps := #[.string ⟨s.toArray⟩, t1, t2, .slice (some ⟨g, 0, none⟩) n cap, .int .i64 (i : Int), .int .i64 (k : Int), t6, t7, t8, t9, t10, t11, t12, t13, t14, t15, t16, t17, t18, t19, t20, t21, t22, t23, t24, t25, t26, t27, t28, t29, t30, t31, t32, t33, t34, t35, t36, t37, t38, t39, t40, t41], defers := ds } w := by
  simp only [rd8O0, findR, Try.f32, Option.bind_some, Option.or, Option.getD, Nat.reduceEqDiff, if_true, if_false, reduceIte]
  have hb8 : b < 256 := by rw [← hb]; exact (s[i]).toNat_lt
  have hsz : (⟨s.toArray⟩ : ByteArray).size = s.length := by simp [ByteArray.size]
  have hor : bits .or .u32 0 ((b * 1 : Nat) : Int) = ((b : Nat) : Int) := by
    have := u32_or_nat 0 (b * 1) (by decide) (by omega)
    simpa using this
  have HO := Lib.hid hor
  have HH := Lib.hid h
  clear h hor
  refine wp_region_quiet_tail 15 mixed (by kernel_rfl) ?_
  simp only [List.take_succ_cons, List.take_zero, List.drop_succ_cons, List.drop_zero]
  iterate 15 go_big_quiet_step (fail)
  refine wpQuiet_nil ?_
  intro _ hw'
  obtain ⟨nq, hw''⟩ := hw'
  subst hw''
  have f2 : (w.drewN nq).frozen? ⟨g, q, none⟩ = false := fo
  go_wp2_with fail
  refine HH.out _ _ _ _ _ _ _ _ _ _ _ _ _ _ _ _ _ (Sm.drewN w nq) (congrArg (fun z => (w.drewN nq).setCell ⟨g, q, none⟩ (.int .u32 z)) ?_)
  have e2 : ((⟨s.toArray⟩ : ByteArray)[i]'(by omega)).toNat = b := hb
  rw [e2]
  refine Eq.trans ?_ HO.out
  congr 1
  omega
noncomputable def rd8O1 : Array Oper := (Try.f32.body.bind fun c => findR c 8).getD #[]
set_option maxHeartbeats 8000000 in
theorem rd81 (s : List UInt8) (g n cap q k i x b : Nat) (hx : x < 256) (hi : i < s.length) (hb : (s[i]).toNat = b) (hs : s.length ≤ 10000000000000) (hk : Int.tdiv (k : Int) 2 = (q : Int)) (hr : Int.tmod (k : Int) 2 = 1) (hq : q < n) (hn : n ≤ cap) (hc : cap ≤ 9223372036854775807) (w : World) (ic : w.cell? ⟨g, q, none⟩ = some (.int .u32 (x : Int))) (fo : w.frozen? ⟨g, q, none⟩ = false)
    {t1 t2 t6 t7 t8 t9 t10 t11 t12 t13 t14 t15 t16 t17 t18 t19 t20 t21 t22 t23 t24 t25 t26 t27 t28 t29 t30 t31 t32 t33 t34 t35 t36 t37 t38 t39 t40 t41 : Value} {ds : List Deferred} {Q : Exit → Act → World → Prop}
    (h : ∀ (x25 x26 x27 x28 x29 x30 x31 x32 x33 x34 x35 x36 x37 x38 x39 : Value) (w' wm : World), Sm w wm → w' = wm.setCell ⟨g, q, none⟩ (.int .u32 (((x + 256 * b) : Nat) : Int)) → Q .normal { tmps := #[.string ⟨s.toArray⟩, t1, t2, .slice (some ⟨g, 0, none⟩) n cap, .int .i64 (i : Int), .int .i64 (k : Int), t6, t7, t8, t9, t10, t11, t12, t13, t14, t15, t16, t17, t18, t19, t20, t21, t22, t23, t24, x25, x26, x27, x28, x29, x30, x31, x32, x33, x34, x35, x36, x37, x38, x39, t40, t41], defers := ds } w') :
    (Code.region 8 rd8O1 true).wp Try.prog Q { tmps := #[.string ⟨s.toArray⟩, t1, t2, .slice (some ⟨g, 0, none⟩) n cap, .int .i64 (i : Int), .int .i64 (k : Int), t6, t7, t8, t9, t10, t11, t12, t13, t14, t15, t16, t17, t18, t19, t20, t21, t22, t23, t24, t25, t26, t27, t28, t29, t30, t31, t32, t33, t34, t35, t36, t37, t38, t39, t40, t41], defers := ds } w := by
  simp only [rd8O1, findR, Try.f32, Option.bind_some, Option.or, Option.getD, Nat.reduceEqDiff, if_true, if_false, reduceIte]
  have hb8 : b < 256 := by rw [← hb]; exact (s[i]).toNat_lt
  have hsz : (⟨s.toArray⟩ : ByteArray).size = s.length := by simp [ByteArray.size]
  have hor : bits .or .u32 (x : Int) ((b * 256 : Nat) : Int) = (((x + 256 * b) : Nat) : Int) := by
    have := u32_or_nat x (b * 256) (by omega) (by omega)
    rw [this, Nat.or_comm, show b * 256 = b <<< 8 from by rw [Nat.shiftLeft_eq], ← Nat.shiftLeft_add_eq_or_of_lt (by omega), Nat.shiftLeft_eq]; congr 1; omega
  have HO := Lib.hid hor
  have HH := Lib.hid h
  clear h hor
  refine wp_region_quiet_tail 15 mixed (by kernel_rfl) ?_
  simp only [List.take_succ_cons, List.take_zero, List.drop_succ_cons, List.drop_zero]
  iterate 15 go_big_quiet_step (fail)
  refine wpQuiet_nil ?_
  intro _ hw'
  obtain ⟨nq, hw''⟩ := hw'
  subst hw''
  have f2 : (w.drewN nq).frozen? ⟨g, q, none⟩ = false := fo
  go_wp2_with fail
  refine HH.out _ _ _ _ _ _ _ _ _ _ _ _ _ _ _ _ _ (Sm.drewN w nq) (congrArg (fun z => (w.drewN nq).setCell ⟨g, q, none⟩ (.int .u32 z)) ?_)
  have e2 : ((⟨s.toArray⟩ : ByteArray)[i]'(by omega)).toNat = b := hb
  rw [e2]
  refine Eq.trans ?_ HO.out
  congr 1
  omega
theorem Rd.open {B : Nat} {v : Value} {l : List Nat} {w : World} (h : Rd B v l w) (hl : l ≠ []) (hm : l.length ≤ 10000000000001) :
    ∃ g cap, v = .slice (some ⟨g, 0, none⟩) l.length cap ∧ l.length ≤ cap ∧ cap ≤ 9223372036854775807 ∧ B ≤ g ∧ (∀ i (hi : i < l.length), w.cell? ⟨g, i, none⟩ = some (.int .u32 ((l[i] : Nat) : Int))) ∧ (∀ i, w.frozen? ⟨g, i, none⟩ = false) := by
  have H := h
  rcases h.2 with ⟨rfl, h0⟩ | ⟨g, cap, cur, rfl, hg, hh, h1, h2, h3, _⟩
  · exact absurd (List.eq_nil_of_length_eq_zero h0) hl
  · refine ⟨g, cap, rfl, h1, by unfold maxLen at h2; omega, hg, fun i hi => ?_, fun i => Lib.frozen_of_heap hh i⟩
    have := World.ownsRow.cells H (g := g) rfl i (.int .u32 ((l[i] : Nat) : Int)) (by simp [cd, hi])
    rwa [at0] at this
theorem take_snoc {T : List UInt8} {k : Nat} (h : k < T.length) : T.take (k + 1) = T.take k ++ [T[k]] := (List.take_append_getElem h).symm
theorem rev_get {s : List UInt8} {k i : Nat} (hk : k < s.reverse.length) (hi : i < s.length) (h : i + k + 1 = s.length) : s.reverse[k] = s[i] := by
  rw [List.getElem_reverse]
  congr 1
  omega
set_option maxHeartbeats 8000000 in
theorem read_any (s : List UInt8) (hs : s.length ≤ 10000000000000) (w : World) :
    Calls Try.prog 32 #[.string ⟨s.toArray⟩] w fun e w' => ∃ v', e = .returned v' ∧ Nr w w' v' (bv s) := by
  by_cases h0 : s = []
  · subst h0
    go_enter Try.func32, Try.ntmps32
    go_wp2_with fail
    refine wp_loop_rounds 1 ?_
    rw [rounds_succ]
    go_wp2_with fail
    refine (trim_any [] _ _ (us_dr (l := []) (Go.heap_alloc_new w _) (by decide))).mono ?_
    rintro e w2 ⟨⟨v2, rfl, hdr⟩, rfl⟩
    have HF : Hid (Nr w (w.alloc (.cells #[] 75)) v2 (bv [])) := Lib.hid ⟨⟨_, hdr, trim_dig (by unfold Dig; simp), trim_trim _, by rw [trim_val]; rfl⟩, al_below _ _⟩
    clear hdr
    go_wp2_with fail
    go_ret
    exact ⟨_, rfl, HF.out⟩
  · have hL : 0 < s.length := List.length_pos_iff.2 h0
    have hsz : (⟨s.toArray⟩ : ByteArray).size = s.length := by simp [ByteArray.size]
    have hTl : s.reverse.length = s.length := List.length_reverse
    have HTV : Hid (val (rd s.reverse) = bv s) := Lib.hid (by rw [rd_val, List.reverse_reverse])
    have HG : Hid (∀ k (hk : k < s.reverse.length) i (hi : i < s.length), i + k + 1 = s.length → s.reverse[k] = s[i]) := Lib.hid (fun k hk i hi h => rev_get hk hi h)
    generalize s.reverse = T at hTl HTV HG
    have HTL := Lib.hid hTl
    obtain ⟨L, hLL⟩ : ∃ L, L = s.length := ⟨_, rfl⟩
    rw [← hLL] at hL hs hsz
    have HLL := Lib.hid hLL
    clear hTl h0 hLL
    have HR0 := Lib.hid (Rd.nil w)
    have HB0 : Hid (Below w.heap.size w (w.alloc (.cells #[] 75))) := Lib.hid (al_below _ _)
    go_enter Try.func32, Try.ntmps32
    go_wp2_with fail
    generalize (Value.slice (some ⟨w.heap.size, 0, none⟩) 0 0) = v0 at HR0 ⊢
    generalize w.alloc (.cells #[] 75) = w0 at HR0 HB0 ⊢
    go_loopw [3, 4] (fun o i wr => ∃ k : Nat, k ≤ L ∧ i = .int .i64 ((L : Int) - 1 - (k : Int)) ∧ Rd w.heap.size o (rd (T.take k)) wr ∧ Below w.heap.size w wr) (fun _ i _ => (intOf i + 1).toNat)
    case atStart => exact ⟨0, by omega, by go_num, HR0.out, HB0.out⟩
    case round =>
      clear HR0 HB0
      obtain ⟨k, hkL, rfl, hr, hb⟩ := hrel
      have HR := Lib.hid hr
      have HW := Lib.hid hb
      clear hr hb
      by_cases hk : k < L
      · obtain ⟨ix, hix⟩ : ∃ ix, ix + k + 1 = L := ⟨L - 1 - k, by omega⟩
        have e1 : (L : Int) - 1 - (k : Int) = (ix : Int) := by omega
        rw [e1]
        have e5 : (L : Int) - 1 - (ix : Int) = (k : Int) := by omega
        have hixs : ix < s.length := by have := HLL.out; omega
        have hkT : k < T.length := by have := HTL.out; have := HLL.out; omega
        have HTK := Lib.hid (take_snoc hkT)
        rw [HG.out k hkT ix hixs (by have := HLL.out; omega)] at HTK
        have htl : (T.take k).length = k := by rw [List.length_take]; omega
        obtain ⟨q, hq⟩ : ∃ q, q = k / 2 := ⟨_, rfl⟩
        have t1 : Int.tdiv (k : Int) 2 = (q : Int) := by rw [Int.tdiv_eq_ediv_of_nonneg (by omega)]; omega
        have HRL := Lib.hid (rd_len (T.take k))
        rw [htl] at HRL
        have HQ := Lib.hid hq
        clear e1 hq
        by_cases hev : k % 2 = 0
        · have t2 : Int.tmod (k : Int) 2 = 0 := by rw [Int.tmod_eq_emod_of_nonneg (by omega)]; omega
          have HST := Lib.hid (rd_set (t := T.take k) (b := s[ix]) (by rw [htl]; exact hev))
          rw [htl] at HST
          rw [← HTK.out] at HST
          generalize hl0 : rd (T.take k) = l0 at HR HRL HST
          have HLQ : Hid (l0.length = q) := Lib.hid (by rw [HRL.out, HQ.out]; omega)
          clear hl0 htl
          go_wp2_with (at_builtin; refine app_d _ 0 rfl (.tmp 22) (.tmp 23) rfl rfl rfl rfl HR.out HW.out (by rw [HLQ.out, HQ.out]; omega) ?_; intro v1 w1 hr hb; have HR2 := Lib.hid hr; have HW2 := Lib.hid hb; clear hr hb)
          have hln : (l0 ++ [0]).length = q + 1 := by rw [List.length_append, HLQ.out]; rfl
          obtain ⟨g, cap, hv, hcap, hcm, hBg, hcell, hfro⟩ := HR2.out.open (by simp) (by rw [hln, HQ.out]; omega)
          have hc := hcell q (by rw [hln]; omega)
          have e0 : (l0 ++ [0])[q]'(by rw [hln]; omega) = 0 := by
            rw [List.getElem_append_right (by rw [HLQ.out]; omega)]
            simp
          rw [e0] at hc
          rw [hln] at hv hcap
          subst hv
          refine rd80 s g (q + 1) cap q k ix 0 _ hixs rfl (by have := HLL.out; omega) t1 t2 (by omega) hcap hcm w1 hc (hfro q) ?_
          intros
          rename_i wn wm hsm hwn
          subst hwn
          have HF : Hid (Rd w.heap.size (.slice (some ⟨g, 0, none⟩) (q + 1) cap) (rd (T.take (k + 1))) (wm.setCell ⟨g, q, none⟩ (.int .u32 ((s[ix].toNat : Nat) : Int)))) := Lib.hid (by
            rw [← HST.out, ← HQ.out]
            exact (HR2.out.below hsm.below0).set q _ (by rw [hln]; omega))
          have HBF : Hid (Below w.heap.size w (wm.setCell ⟨g, q, none⟩ (.int .u32 ((s[ix].toNat : Nat) : Int)))) := Lib.hid ((hsm.below HW2.out).setCell (p := ⟨g, q, none⟩) hBg _)
          clear hsm hc hcell hfro HR2 HW2 e0
          generalize (wm.setCell ⟨g, q, none⟩ (.int .u32 ((s[ix].toNat : Nat) : Int))) = wq at HF HBF ⊢
          go_wp2_with fail
          go_roundw
          case rel => exact ⟨k + 1, by omega, by go_num, HF.out, HBF.out⟩
          case measure => simp [intOf] <;> omega
        · have t2 : Int.tmod (k : Int) 2 = 1 := by rw [Int.tmod_eq_emod_of_nonneg (by omega)]; omega
          obtain ⟨hgl, hset⟩ := rd_odd (T.take k) s[ix] (by rw [htl]; omega)
          rw [htl] at hgl hset
          have HST := Lib.hid hset
          rw [← HTK.out] at HST
          have hlb := lastB_lt (T.take k)
          have HGL := Lib.hid hgl
          clear hgl hset
          generalize lastB (T.take k) = x at HST HGL hlb
          generalize hl0 : rd (T.take k) = l0 at HR HRL HST HGL
          have HLQ : Hid (l0.length = q + 1) := Lib.hid (by rw [HRL.out, HQ.out]; omega)
          clear hl0 htl
          obtain ⟨g, cap, hv, hcap, hcm, hBg, hcell, hfro⟩ := HR.out.open (by intro h; have := HLQ.out; rw [h] at this; simp at this) (by rw [HLQ.out, HQ.out]; omega)
          have hc := hcell q (by rw [HLQ.out]; omega)
          have e0 : l0[q]'(by rw [HLQ.out]; omega) = x := by
            have := HGL.out
            rw [← HQ.out, List.getElem?_eq_getElem (by rw [HLQ.out]; omega)] at this
            exact Option.some.inj this
          rw [e0] at hc
          rw [HLQ.out] at hv hcap
          subst hv
          clear e0 hcell
          have HC := Lib.hid hc
          have HFR := Lib.hid (hfro q)
          clear hc hfro
          go_wp2_with fail
          refine rd81 s g (q + 1) cap q k ix x _ hlb hixs rfl (by have := HLL.out; omega) t1 t2 (by omega) hcap hcm wr HC.out HFR.out ?_
          intros
          rename_i wn wm hsm hwn
          subst hwn
          have HF : Hid (Rd w.heap.size (.slice (some ⟨g, 0, none⟩) (q + 1) cap) (rd (T.take (k + 1))) (wm.setCell ⟨g, q, none⟩ (.int .u32 ((x + 256 * s[ix].toNat : Nat) : Int)))) := Lib.hid (by
            rw [HST.out, ← HQ.out]
            exact (HR.out.below hsm.below0).set q _ (by rw [HLQ.out]; omega))
          have HBF : Hid (Below w.heap.size w (wm.setCell ⟨g, q, none⟩ (.int .u32 ((x + 256 * s[ix].toNat : Nat) : Int)))) := Lib.hid ((hsm.below HW.out).setCell (p := ⟨g, q, none⟩) hBg _)
          clear hsm HC HFR HR HW
          generalize (wm.setCell ⟨g, q, none⟩ (.int .u32 ((x + 256 * s[ix].toNat : Nat) : Int))) = wq at HF HBF ⊢
          go_wp2_with fail
          go_roundw
          case rel => exact ⟨k + 1, by omega, by go_num, HF.out, HBF.out⟩
          case measure => simp [intOf] <;> omega
      · obtain rfl : k = L := by omega
        have htt : T.take k = T := List.take_of_length_le (by have := HTL.out; have := HLL.out; omega)
        have HDR := Lib.hid HR.out
        rw [htt] at HDR
        have hrl := rd_len T
        have HD := Lib.hid (HDR.out.dr (by intro h; have := hrl; rw [h] at this; simp at this; have := HTL.out; have := HLL.out; omega) (by rw [hrl]; have := HTL.out; have := HLL.out; omega))
        clear htt HR HDR hrl
        go_wp2_with fail
        refine (trim_any _ _ _ HD.out).mono ?_
        rintro e w2 ⟨⟨v2, rfl, hdr⟩, rfl⟩
        have HF : Hid (Nr w wr v2 (bv s)) := Lib.hid ⟨⟨_, hdr, trim_dig (rd_dig T), trim_trim _, by rw [trim_val, HTV.out]⟩, HW.out⟩
        clear hdr
        go_wp2_with fail
        go_ret
        exact ⟨_, rfl, HF.out⟩
end Go.Proofs.Ytglmmodkflkkkaa.Ref
