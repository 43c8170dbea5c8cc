import Derived.Test.YtglmmodkflkkkaaXKg
set_option linter.unusedVariables false
set_option linter.unusedSimpArgs false
set_option maxRecDepth 100000
namespace Go.Proofs.Ytglmmodkflkkkaa.Ref
open Go.RowKit Go.Proofs.Ytglmmodkflkkkaa.Digits Limbs Curve
def Po.same (p q : Po) : Bool := (p.i && q.i) || (!p.i && !q.i && decide (p.x = q.x) && decide (p.y = q.y))
set_option maxHeartbeats 16000000 in
theorem same7 (v u : Value) (p q : Po) (w : World) (h : RP w v p) (k : RP w u q) : Calls Try.prog 81 #[v, u] w fun e w' => e = .returned (.bool (Po.same p q)) ∧ Below w.heap.size w w' := by
  obtain ⟨x, y, pi⟩ := p
  obtain ⟨x', y', qi⟩ := q
  obtain ⟨ax, nx, cx, ay, ny, cy, rfl, hn⟩ := h
  obtain ⟨bx, mx, dx, bb, my, dy, rfl, hm⟩ := k
  unfold Po.same
  cases pi
  · cases qi
    · obtain ⟨hnx, hny⟩ := hn rfl
      obtain ⟨hmx, hmy⟩ := hm rfl
      have NX := Lib.hid hnx
      have NY := Lib.hid hny
      have MX := Lib.hid hmx
      have MY := Lib.hid hmy
      clear hn hm hnx hny hmx hmy
      have hcx := cmp_eq0 x x'
      have hcy := cmp_eq0 y y'
      have HCX := Lib.hid (fun w h k => cmp_nv (.slice ax nx cx) (.slice bx mx dx) w x x' h k)
      have HCY := Lib.hid (fun w h k => cmp_nv (.slice ay ny cy) (.slice bb my dy) w y y' h k)
      by_cases hx : x = x'
      · rw [decide_eq_true hx] at hcx ⊢
        generalize decide (y = y') = res at hcy ⊢
        generalize cmpN x x' = cm at HCX hcx
        generalize cmpN y y' = cn at HCY hcy
        clear hx
        go_enter Try.func81, Try.ntmps81
        go_wp2_with fail
        have KP : Hid (Bk 64 ((w.alloc (.cells #[.bool false, .slice ax nx cx, .slice ay ny cy] 64)).alloc (.cells #[.bool false, .slice bx mx dx, .slice bb my dy] 64)) w.heap.size #[.bool false, .slice ax nx cx, .slice ay ny cy]) := Lib.hid (Bk.alloc (Bk.new rfl))
        have KQ : Hid (Bk 64 ((w.alloc (.cells #[.bool false, .slice ax nx cx, .slice ay ny cy] 64)).alloc (.cells #[.bool false, .slice bx mx dx, .slice bb my dy] 64)) (w.heap.size + 1) #[.bool false, .slice bx mx dx, .slice bb my dy]) := Lib.hid (Bk.new (by simp))
        have HB : Hid (Below w.heap.size w ((w.alloc (.cells #[.bool false, .slice ax nx cx, .slice ay ny cy] 64)).alloc (.cells #[.bool false, .slice bx mx dx, .slice bb my dy] 64))) := Lib.hid (by go_grown)
        obtain ⟨gq, hgq⟩ : ∃ g, g = w.heap.size + 1 := ⟨_, rfl⟩
        rw [← hgq] at KQ ⊢
        clear hgq
        generalize ((w.alloc (.cells #[.bool false, .slice ax nx cx, .slice ay ny cy] 64)).alloc (.cells #[.bool false, .slice bx mx dx, .slice bb my dy] 64)) = w0 at KP KQ HB ⊢
        obtain ⟨a0, a1, a2⟩ := Bk.cells3 KP.out
        obtain ⟨b0, b1, b2⟩ := Bk.cells3 KQ.out
        go_wp2_with fail
        clear a0 a1 a2 b0 b1 b2
        have HC := Lib.hid (HCX.out w0 (NX.out.below HB.out) (MX.out.below HB.out))
        refine HC.out.mono ?_
        rintro e w1 ⟨rfl, hs⟩
        replace KP := Lib.hid (KP.out.below hs.below0)
        replace KQ := Lib.hid (KQ.out.below hs.below0)
        replace HB := Lib.hid (hs.below HB.out)
        clear hs HC
        obtain ⟨a0, a1, a2⟩ := Bk.cells3 KP.out
        obtain ⟨b0, b1, b2⟩ := Bk.cells3 KQ.out
        go_wp2_with fail
        clear a0 a1 a2 b0 b1 b2
        have HC := Lib.hid (HCY.out w1 (NY.out.below HB.out) (MY.out.below HB.out))
        refine HC.out.mono ?_
        rintro e w2 ⟨rfl, hs⟩
        replace HB := Lib.hid (hs.below HB.out)
        clear hs HC
        go_wp2_with fail
        go_ret
        exact ⟨by simp, HB.out⟩
      · rw [decide_eq_false hx] at hcx ⊢
        generalize cmpN x x' = cm at HCX hcx
        clear hx
        go_enter Try.func81, Try.ntmps81
        go_wp2_with fail
        have KP : Hid (Bk 64 ((w.alloc (.cells #[.bool false, .slice ax nx cx, .slice ay ny cy] 64)).alloc (.cells #[.bool false, .slice bx mx dx, .slice bb my dy] 64)) w.heap.size #[.bool false, .slice ax nx cx, .slice ay ny cy]) := Lib.hid (Bk.alloc (Bk.new rfl))
        have KQ : Hid (Bk 64 ((w.alloc (.cells #[.bool false, .slice ax nx cx, .slice ay ny cy] 64)).alloc (.cells #[.bool false, .slice bx mx dx, .slice bb my dy] 64)) (w.heap.size + 1) #[.bool false, .slice bx mx dx, .slice bb my dy]) := Lib.hid (Bk.new (by simp))
        have HB : Hid (Below w.heap.size w ((w.alloc (.cells #[.bool false, .slice ax nx cx, .slice ay ny cy] 64)).alloc (.cells #[.bool false, .slice bx mx dx, .slice bb my dy] 64))) := Lib.hid (by go_grown)
        obtain ⟨gq, hgq⟩ : ∃ g, g = w.heap.size + 1 := ⟨_, rfl⟩
        rw [← hgq] at KQ ⊢
        clear hgq
        generalize ((w.alloc (.cells #[.bool false, .slice ax nx cx, .slice ay ny cy] 64)).alloc (.cells #[.bool false, .slice bx mx dx, .slice bb my dy] 64)) = w0 at KP KQ HB ⊢
        obtain ⟨a0, a1, a2⟩ := Bk.cells3 KP.out
        obtain ⟨b0, b1, b2⟩ := Bk.cells3 KQ.out
        go_wp2_with fail
        clear a0 a1 a2 b0 b1 b2
        have HC := Lib.hid (HCX.out w0 (NX.out.below HB.out) (MX.out.below HB.out))
        refine HC.out.mono ?_
        rintro e w1 ⟨rfl, hs⟩
        replace KP := Lib.hid (KP.out.below hs.below0)
        replace KQ := Lib.hid (KQ.out.below hs.below0)
        replace HB := Lib.hid (hs.below HB.out)
        clear hs HC
        obtain ⟨a0, a1, a2⟩ := Bk.cells3 KP.out
        obtain ⟨b0, b1, b2⟩ := Bk.cells3 KQ.out
        go_wp2_with fail
        go_ret
        exact ⟨by simp, HB.out⟩
    · clear hn hm
      go_enter Try.func81, Try.ntmps81
      go_wp2_with fail
      have KP : Hid (Bk 64 ((w.alloc (.cells #[.bool false, .slice ax nx cx, .slice ay ny cy] 64)).alloc (.cells #[.bool true, .slice bx mx dx, .slice bb my dy] 64)) w.heap.size #[.bool false, .slice ax nx cx, .slice ay ny cy]) := Lib.hid (Bk.alloc (Bk.new rfl))
      have KQ : Hid (Bk 64 ((w.alloc (.cells #[.bool false, .slice ax nx cx, .slice ay ny cy] 64)).alloc (.cells #[.bool true, .slice bx mx dx, .slice bb my dy] 64)) (w.heap.size + 1) #[.bool true, .slice bx mx dx, .slice bb my dy]) := Lib.hid (Bk.new (by simp))
      have HB : Hid (Below w.heap.size w ((w.alloc (.cells #[.bool false, .slice ax nx cx, .slice ay ny cy] 64)).alloc (.cells #[.bool true, .slice bx mx dx, .slice bb my dy] 64))) := Lib.hid (by go_grown)
      obtain ⟨gq, hgq⟩ : ∃ g, g = w.heap.size + 1 := ⟨_, rfl⟩
      rw [← hgq] at KQ ⊢
      clear hgq
      generalize ((w.alloc (.cells #[.bool false, .slice ax nx cx, .slice ay ny cy] 64)).alloc (.cells #[.bool true, .slice bx mx dx, .slice bb my dy] 64)) = w0 at KP KQ HB ⊢
      obtain ⟨a0, a1, a2⟩ := Bk.cells3 KP.out
      obtain ⟨b0, b1, b2⟩ := Bk.cells3 KQ.out
      go_wp2_with fail
      go_ret
      exact ⟨rfl, HB.out⟩
  · cases qi
    · clear hn hm
      go_enter Try.func81, Try.ntmps81
      go_wp2_with fail
      have KP : Hid (Bk 64 ((w.alloc (.cells #[.bool true, .slice ax nx cx, .slice ay ny cy] 64)).alloc (.cells #[.bool false, .slice bx mx dx, .slice bb my dy] 64)) w.heap.size #[.bool true, .slice ax nx cx, .slice ay ny cy]) := Lib.hid (Bk.alloc (Bk.new rfl))
      have KQ : Hid (Bk 64 ((w.alloc (.cells #[.bool true, .slice ax nx cx, .slice ay ny cy] 64)).alloc (.cells #[.bool false, .slice bx mx dx, .slice bb my dy] 64)) (w.heap.size + 1) #[.bool false, .slice bx mx dx, .slice bb my dy]) := Lib.hid (Bk.new (by simp))
      have HB : Hid (Below w.heap.size w ((w.alloc (.cells #[.bool true, .slice ax nx cx, .slice ay ny cy] 64)).alloc (.cells #[.bool false, .slice bx mx dx, .slice bb my dy] 64))) := Lib.hid (by go_grown)
      obtain ⟨gq, hgq⟩ : ∃ g, g = w.heap.size + 1 := ⟨_, rfl⟩
      rw [← hgq] at KQ ⊢
      clear hgq
      generalize ((w.alloc (.cells #[.bool true, .slice ax nx cx, .slice ay ny cy] 64)).alloc (.cells #[.bool false, .slice bx mx dx, .slice bb my dy] 64)) = w0 at KP KQ HB ⊢
      obtain ⟨a0, a1, a2⟩ := Bk.cells3 KP.out
      obtain ⟨b0, b1, b2⟩ := Bk.cells3 KQ.out
      go_wp2_with fail
      go_ret
      exact ⟨rfl, HB.out⟩
    · clear hn hm
      go_enter Try.func81, Try.ntmps81
      go_wp2_with fail
      have KP : Hid (Bk 64 ((w.alloc (.cells #[.bool true, .slice ax nx cx, .slice ay ny cy] 64)).alloc (.cells #[.bool true, .slice bx mx dx, .slice bb my dy] 64)) w.heap.size #[.bool true, .slice ax nx cx, .slice ay ny cy]) := Lib.hid (Bk.alloc (Bk.new rfl))
      have KQ : Hid (Bk 64 ((w.alloc (.cells #[.bool true, .slice ax nx cx, .slice ay ny cy] 64)).alloc (.cells #[.bool true, .slice bx mx dx, .slice bb my dy] 64)) (w.heap.size + 1) #[.bool true, .slice bx mx dx, .slice bb my dy]) := Lib.hid (Bk.new (by simp))
      have HB : Hid (Below w.heap.size w ((w.alloc (.cells #[.bool true, .slice ax nx cx, .slice ay ny cy] 64)).alloc (.cells #[.bool true, .slice bx mx dx, .slice bb my dy] 64))) := Lib.hid (by go_grown)
      obtain ⟨gq, hgq⟩ : ∃ g, g = w.heap.size + 1 := ⟨_, rfl⟩
      rw [← hgq] at KQ ⊢
      clear hgq
      generalize ((w.alloc (.cells #[.bool true, .slice ax nx cx, .slice ay ny cy] 64)).alloc (.cells #[.bool true, .slice bx mx dx, .slice bb my dy] 64)) = w0 at KP KQ HB ⊢
      obtain ⟨a0, a1, a2⟩ := Bk.cells3 KP.out
      obtain ⟨b0, b1, b2⟩ := Bk.cells3 KQ.out
      go_wp2_with fail
      go_ret
      exact ⟨rfl, HB.out⟩
set_option maxHeartbeats 16000000 in
theorem out7 (v : Value) (p : Po) (hp : p.ok) (w : World) (h : RP w v p) : Calls Try.prog 48 #[v] w fun e w' => e = .returned (if p.i = true then pn 0 0 true else pn p.x p.y false) ∧ Below w.heap.size w w' := by
  obtain ⟨ux, uy, pi⟩ := p
  obtain ⟨hux, huy⟩ := hp
  obtain ⟨ax, nx, cx, ay, ny, cy, rfl, hn⟩ := h
  cases pi
  · obtain ⟨hnx, hny⟩ := hn rfl
    have NX := Lib.hid hnx
    have NY := Lib.hid hny
    have HU : Hid (ux < W256 ∧ uy < W256) := Lib.hid ⟨hux, huy⟩
    clear hn hnx hny hux huy
    rw [if_neg (show ¬ (false = true) by decide)]
    go_enter Try.func48, Try.ntmps48
    go_wp2_with fail
    have KP : Hid (Bk 64 ((w.alloc (.cells #[.bool false, .slice ax nx cx, .slice ay ny cy] 64)).alloc (.cells #[.int .u64 0, .int .u64 0, .int .u64 0, .int .u64 0, .int .u64 0, .int .u64 0, .int .u64 0, .int .u64 0, .bool false] 51)) w.heap.size #[.bool false, .slice ax nx cx, .slice ay ny cy]) := Lib.hid (Bk.alloc (Bk.new rfl))
    have KR : Hid (Bk 51 ((w.alloc (.cells #[.bool false, .slice ax nx cx, .slice ay ny cy] 64)).alloc (.cells #[.int .u64 0, .int .u64 0, .int .u64 0, .int .u64 0, .int .u64 0, .int .u64 0, .int .u64 0, .int .u64 0, .bool false] 51)) (w.heap.size + 1) #[.int .u64 0, .int .u64 0, .int .u64 0, .int .u64 0, .int .u64 0, .int .u64 0, .int .u64 0, .int .u64 0, .bool false]) := Lib.hid (Bk.new (by simp))
    have HB : Hid (Below w.heap.size w ((w.alloc (.cells #[.bool false, .slice ax nx cx, .slice ay ny cy] 64)).alloc (.cells #[.int .u64 0, .int .u64 0, .int .u64 0, .int .u64 0, .int .u64 0, .int .u64 0, .int .u64 0, .int .u64 0, .bool false] 51))) := Lib.hid (by go_grown)
    obtain ⟨gR, hgR⟩ : ∃ g, g = w.heap.size + 1 := ⟨_, rfl⟩
    rw [← hgR] at KR ⊢
    have HG := Lib.hid (show w.heap.size ≤ gR by omega)
    clear hgR
    generalize ((w.alloc (.cells #[.bool false, .slice ax nx cx, .slice ay ny cy] 64)).alloc (.cells #[.int .u64 0, .int .u64 0, .int .u64 0, .int .u64 0, .int .u64 0, .int .u64 0, .int .u64 0, .int .u64 0, .bool false] 51)) = w0 at KP KR HB ⊢
    obtain ⟨a0, a1, a2⟩ := Bk.cells3 KP.out
    go_wp2_with fail
    clear a0 a1 a2
    refine ou3 w.heap.size gR ux uy nx cx ny cy ax ay w0 KP.out KR.out HU.out.1 HU.out.2 (NX.out.below HB.out) (NY.out.below HB.out) ?_
    intros
    rename_i w1 hb1
    have K1 := Lib.hid (KR.out.below hb1)
    have HB1 := Lib.hid (HB.out.trans (hb1.mono HB.out.size))
    clear hb1 KP KR HB
    go_wp2_with fail
    refine ret_cell51 rfl gR ux uy false rfl (Bk.put9 K1.out) rfl ⟨rfl, ?_⟩
    have hb := HB1.out
    have hg := HG.out
    go_grown
  · clear hn hux huy
    rw [if_pos rfl]
    go_enter Try.func48, Try.ntmps48
    go_wp2_with fail
    refine ret_cell51 rfl (w.heap.size + 1) 0 0 true rfl (Bk.new (by simp)) rfl ⟨rfl, ?_⟩
    go_grown
end Go.Proofs.Ytglmmodkflkkkaa.Ref
