/- The document's log: what stays known of it, call by call; Append, Sync, Room, Copy. Condition: where the disk is gone the log is dead. -/
import Derived.Test.YtmoihgniglomiaaDoorZd20
import Derived.Test.YtmoihgniglomiaaDoorZd18
set_option linter.unusedVariables false
set_option linter.unusedSimpArgs false
set_option maxRecDepth 100000
namespace Go.Proofs.YtmoihgniglomiaaDoor
open Go.RowKit Go.Sort
structure RL (w : World) (rb r : Nat) (S : St) (l : Wlg) (uv : Value) (kp : Int) : Prop where
  bk : Bk 102 w rb (rlc r l)
  k : Rk w r S uv kp
  ne : rb ≠ r
theorem RL.below {w w' : World} {rb r : Nat} {S : St} {l : Wlg} {uv : Value} {kp : Int} (h : RL w rb r S l uv kp) (hb : Below w.heap.size w w') : RL w' rb r S l uv kp := ⟨h.bk.below hb, h.k.below hb, h.ne⟩
def RLM (w : World) (rb r : Nat) (uv : Value) (w' : World) (S' : St) (l' : Wlg) : Prop := ∃ uv' kp', RL w' rb r S' l' uv' kp' ∧ Only [rb, r] w w' ∧ ∀ g, uv'.ownBlock = some g → uv.ownBlock = some g ∨ w.heap.size ≤ g
theorem RLM.refl {w : World} {rb r : Nat} {S : St} {l : Wlg} {uv : Value} {kp : Int} (h : RL w rb r S l uv kp) : RLM w rb r uv w S l := ⟨uv, kp, h, Only.refl _ _, fun g e => .inl e⟩
theorem RLM.below {w w1 w2 : World} {rb r : Nat} {S : St} {l : Wlg} {uv : Value} (h : RLM w rb r uv w1 S l) (hb : Below w1.heap.size w1 w2) : RLM w rb r uv w2 S l := by
  obtain ⟨uv1, kp1, h1, h2, h3⟩ := h
  exact ⟨uv1, kp1, h1.below hb, h2.trans (Only.of (L := []) hb) (fun x hx => by simp at hx), h3⟩
theorem RLM.drew {w w1 : World} {rb r : Nat} {S : St} {l : Wlg} {uv : Value} (h : RLM w rb r uv w1 S l) : RLM w rb r uv w1.drew S l := h.below ⟨rfl, rfl, rfl, Nat.le_refl _, fun _ _ => rfl⟩
theorem RLM.disk {w w1 w2 : World} {rb r : Nat} {S S2 : St} {l : Wlg} {uv : Value} (h : RLM w rb r uv w1 S l) (k : ∀ uv1 kp1, Rk w1 r S uv1 kp1 → Rm w1 r uv1 w2 S2) : RLM w rb r uv w2 S2 l := by
  obtain ⟨uv1, kp1, h1, h2, h3⟩ := h
  obtain ⟨uv2, kp2, k1, k2, k3⟩ := k uv1 kp1 h1.k
  refine ⟨uv2, kp2, ⟨h1.bk.only k2 (by simpa using h1.ne), k1, h1.ne⟩, h2.trans k2 (fun x hx => .inl (by simp at hx; simp [hx])), fun g e => ?_⟩
  rcases k3 g e with e | e
  · exact h3 g e
  · exact .inr (Nat.le_trans h2.size e)
theorem RLM.disk0 {w w2 : World} {rb r : Nat} {S S2 : St} {l : Wlg} {uv : Value} {kp : Int} (h : RL w rb r S l uv kp) (k : Rm w r uv w2 S2) : RLM w rb r uv w2 S2 l := by
  obtain ⟨uv2, kp2, k1, k2, k3⟩ := k
  exact ⟨uv2, kp2, ⟨h.bk.only k2 (by simpa using h.ne), k1, h.ne⟩, k2.mono (fun x hx => .inl (by simp at hx; simp [hx])), k3⟩
theorem RLM.then {w w1 w2 : World} {rb r : Nat} {S S2 : St} {l : Wlg} {uv uv1 : Value} {kp1 : Int} (h1 : RL w1 rb r S l uv1 kp1) (h2 : Only [rb, r] w w1) (h3 : ∀ g, uv1.ownBlock = some g → uv.ownBlock = some g ∨ w.heap.size ≤ g) (m : Rm w1 r uv1 w2 S2) : RLM w rb r uv w2 S2 l := by
  obtain ⟨uv2, kp2, k1, k2, k3⟩ := m
  refine ⟨uv2, kp2, ⟨h1.bk.only k2 (by simpa using h1.ne), k1, h1.ne⟩, h2.trans k2 (fun x hx => .inl (by simp at hx; simp [hx])), fun g e => ?_⟩
  rcases k3 g e with e | e
  · exact h3 g e
  · exact .inr (Nat.le_trans h2.size e)
theorem RLM.put {w w1 : World} {rb r : Nat} {S : St} {l l' : Wlg} {uv v : Value} {i : Nat} (h : RLM w rb r uv w1 S l) (hc : (rlc r l).setIfInBounds i v = rlc r l') : RLM w rb r uv (w1.setCell ⟨rb, i, none⟩ v) S l' := by
  obtain ⟨uv1, kp1, h1, h2, h3⟩ := h
  refine ⟨uv1, kp1, ⟨?_, h1.k.kept (heap_setCell_other _ _ _ _ (fun e => h1.ne e.symm)) (fun g e => heap_setCell_other _ _ _ _ (fun e2 => h1.k.ne102 h1.bk (by rw [e]; exact congrArg some e2))), h1.ne⟩, h2.setCell _ (.inl (by simp)) _, h3⟩
  rw [← hc]
  exact heap_setCell_same _ _ _ _ _ _ h1.bk
def RCall (w : World) (rb r : Nat) (uv : Value) (x : Nat × St × Wlg) (e : Ending) (w' : World) : Prop := e = .returned (.int .i64 (x.1 : Int)) ∧ RLM w rb r uv w' x.2.1 x.2.2
set_option maxHeartbeats 8000000 in
theorem over_any {w w1 : World} {rb r : Nat} {S : St} {l : Wlg} {uv : Value} (h : RLM w rb r uv w1 S l) : Calls Tryd.prog 86 #[.pointer (some ⟨rb, 0, none⟩)] w1 fun e w' => RCall w rb r uv (2, S, l.sink) e w' := by
  have H := Lib.hid h
  have c4 : w1.cell? ⟨rb, 4, none⟩ = some (.bool l.dead) := by obtain ⟨_, _, h1, _⟩ := h; exact h1.bk.cell 4
  have f4 : w1.frozen? ⟨rb, 4, none⟩ = false := by obtain ⟨_, _, h1, _⟩ := h; exact h1.bk.fro 4
  clear h
  go_enter Tryd.func86, Tryd.ntmps86
  go_wp2_with fail
  go_ret
  exact ⟨rfl, H.out.put rfl⟩
set_option maxHeartbeats 8000000 in
theorem rsync_any {w : World} {rb r : Nat} {S : St} {l : Wlg} {uv : Value} {kp : Int} (h : RL w rb r S l uv kp) (hg : S.gone = true → l.dead = true) : Calls Tryd.prog 53 #[.pointer (some ⟨rb, 0, none⟩)] w fun e w' => RCall w rb r uv (lsync S l) e w' := by
  have H := Lib.hid h
  have c0 : w.cell? ⟨rb, 0, none⟩ = some (.pointer (some ⟨r, 0, none⟩)) := h.bk.cell 0
  have c4 : w.cell? ⟨rb, 4, none⟩ = some (.bool l.dead) := h.bk.cell 4
  by_cases hd : l.dead = true
  · rw [hd] at c4
    have e : lsync S l = (2, S, l.sink) := by unfold lsync; rw [if_pos (.inl hd)]
    have el : l.sink = l := by unfold Wlg.sink; rw [← hd]
    rw [e, el]
    clear h e el hd hg
    go_enter Tryd.func53, Tryd.ntmps53
    go_wp2_with fail
    go_ret
    exact ⟨rfl, .refl H.out⟩
  · have hd' : l.dead = false := by simpa using hd
    have hg' : S.gone = false := by
      cases hx : S.gone
      · rfl
      · exact absurd (hg hx) hd
    rw [hd'] at c4
    have hs := sync34 r S uv kp w h.k
    have HS := Lib.hid hs
    unfold lsync
    rw [if_neg (by simp [hd', hg'])]
    have hcode : S.sync.1 = 0 ∨ S.sync.1 = 2 := by
      unfold St.sync St.count
      rw [if_neg (by simp [hg'])]
      split
      · exact .inl rfl
      · split
        · split <;> simp
        · split <;> simp
    clear hs hd hd' hg hg' h
    generalize hx : S.sync = x at *
    obtain ⟨cd, S2⟩ := x
    simp only at hcode
    clear hx
    rcases hcode with rfl | rfl
    · rw [if_pos rfl]
      go_enter Tryd.func53, Tryd.ntmps53
      go_wp2_with fail
      refine HS.out.mono ?_
      rintro e w1 ⟨rfl, hm⟩
      have M := Lib.hid (RLM.disk0 H.out hm)
      clear hm HS
      go_wp2_with fail
      go_ret
      exact ⟨rfl, M.out⟩
    · rw [if_neg (by simp)]
      go_enter Tryd.func53, Tryd.ntmps53
      go_wp2_with fail
      refine HS.out.mono ?_
      rintro e w1 ⟨rfl, hm⟩
      have M := Lib.hid (RLM.disk0 H.out hm)
      clear hm HS
      go_wp2_with fail
      refine (over_any M.out).mono ?_
      rintro e w2 ⟨rfl, h2⟩
      have M2 := Lib.hid h2
      clear h2
      go_wp2_with fail
      go_ret
      exact ⟨rfl, M2.out⟩
set_option maxHeartbeats 8000000 in
theorem rappend_any {w : World} {rb r : Nat} {S : St} {l : Wlg} {uv : Value} {kp : Int} (h : RL w rb r S l uv kp) (hg : S.gone = true → l.dead = true) (hf : l.file < 2) (hn : l.n ≤ 4611686018427387904) (s : Bs) (hs : s.length ≤ 140737488355328) :
    Calls Tryd.prog 52 #[.pointer (some ⟨rb, 0, none⟩), .string ⟨s.toArray⟩] w fun e w' => RCall w rb r uv (lap S l s) e w' := by
  have H := Lib.hid h
  have c4 : w.cell? ⟨rb, 4, none⟩ = some (.bool l.dead) := h.bk.cell 4
  obtain ⟨ts, hts⟩ : ∃ t : ByteArray, t = ⟨s.toArray⟩ := ⟨_, rfl⟩
  have hsz : ts.size = s.length := by rw [hts, size_ba]
  rw [← hts]
  by_cases hd : l.dead = true
  · rw [hd] at c4
    have e : lap S l s = (2, S, l.sink) := by unfold lap; rw [if_pos (.inl hd)]
    have el : l.sink = l := by unfold Wlg.sink; rw [← hd]
    rw [e, el]
    clear h e el hd hg hts hsz
    go_enter Tryd.func52, Tryd.ntmps52
    go_wp2_with fail
    go_ret
    exact ⟨rfl, .refl H.out⟩
  · have hd' : l.dead = false := by simpa using hd
    have hg' : S.gone = false := by
      cases hx : S.gone
      · rfl
      · exact absurd (hg hx) hd
    rw [hd'] at c4
    unfold lap
    rw [if_neg (by simp [hd', hg'])]
    by_cases h1 : s.length > 65536
    · rw [if_pos h1]
      have hd1 : decide ((65536 : Int) < (ts.size : Int)) = true := decide_eq_true (by omega)
      clear h hd hd' hg hg' hts hsz h1
      go_enter Tryd.func52, Tryd.ntmps52
      go_wp2_with fail
      go_ret
      exact ⟨rfl, .refl H.out⟩
    · rw [if_neg h1]
      have hd1 : decide ((65536 : Int) < (ts.size : Int)) = false := decide_eq_false (by omega)
      have hz : S.size (l.file : Int) = ((S.file l.file).length : Int) := size_at S _ hf
      have hle := file_le h.k.wf l.file
      have C8 : Hid (∀ w1 : World, RLM w rb r uv w1 S l → Calls Tryd.prog 45 #[.pointer (some ⟨r, 0, none⟩), .int .i64 (l.file : Int)] w1 fun e w2 => e = .returned (.int .i64 ((S.file l.file).length : Int)) ∧ RLM w rb r uv w2 S l) := Lib.hid fun w1 h1 => by
        obtain ⟨uv1, kp1, k1, o1, n1⟩ := h1
        have := size32 r S uv1 kp1 (l.file : Int) w1 k1.k
        rw [hz] at this
        refine this.mono ?_
        rintro e w2 ⟨rfl, rfl⟩
        exact ⟨rfl, uv1, kp1, k1, o1, n1⟩
      have LA : Hid (∀ (S1 : St) (w1 : World), RLM w rb r uv w1 S1 l → w1.cell? ⟨rb, 0, none⟩ = some (.pointer (some ⟨r, 0, none⟩))) := Lib.hid fun _ _ h1 => by
        obtain ⟨_, _, k1, _⟩ := h1; exact k1.bk.cell 0
      have LB : Hid (∀ (S1 : St) (w1 : World), RLM w rb r uv w1 S1 l → w1.cell? ⟨rb, 1, none⟩ = some (.int .i64 (l.file : Int))) := Lib.hid fun _ _ h1 => by
        obtain ⟨_, _, k1, _⟩ := h1; exact k1.bk.cell 1
      have C9 : Hid (∀ w1 : World, RLM w rb r uv w1 S l → Calls Tryd.prog 48 #[.string ts] w1 fun e w2 => e = .returned (.string ⟨(frame s).toArray⟩) ∧ RLM w rb r uv w2 S l) := Lib.hid fun w1 k1 => by
        rw [hts]
        refine (rframe_any s (by omega) w1).mono ?_
        rintro e w2 ⟨rfl, hb⟩
        exact ⟨rfl, k1.below hb⟩
      have C10 : Hid (∀ w1 : World, RLM w rb r uv w1 S l → Calls Tryd.prog 46 #[.pointer (some ⟨r, 0, none⟩), .int .i64 (l.file : Int), .string ⟨(frame s).toArray⟩] w1 fun e w2 => e = .returned (.int .i64 ((S.append (l.file : Int) (frame s)).1 : Int)) ∧ RLM w rb r uv w2 (S.append (l.file : Int) (frame s)).2 l) := Lib.hid fun w1 k1 => by
        obtain ⟨uv1, kp1, k1, o1, n1⟩ := k1
        have := append33 r S uv1 kp1 (l.file : Int) ⟨(frame s).toArray⟩ (by rw [size_ba, frame_len]; omega) w1 k1.k
        simp only [List.toList_toArray] at this
        refine this.mono ?_
        rintro e w2 ⟨rfl, hm⟩
        exact ⟨rfl, RLM.then k1 o1 n1 hm⟩
      have hcode := append_code S l.file (frame s) hf
      rw [frame_len] at hcode
      have hroom : ((s.length : Int) > room S l) ↔ (1048576 : Int) < (((S.file l.file).length : Nat) : Int) + 8 + (ts.size : Int) := by unfold room; omega
      have hs6 : ts.size ≤ 65536 := by omega
      generalize frame s = fr at *
      have HN := Lib.hid hn
      obtain ⟨sl, hsl⟩ : ∃ n, n = s.length := ⟨_, rfl⟩
      rw [← hsl] at hsz hroom hcode ⊢
      clear h hd hd' hg hg' hts h1 hz hs hn
      generalize hap : S.append (l.file : Int) fr = ap at *
      obtain ⟨cd, S2⟩ := ap
      simp only at hcode
      generalize (S.file l.file).length = z at *
      have fa : IntKind.i64.wrap ((z : Int) + 8) = (z : Int) + 8 := IntWalk.i64_in _ (by omega)
      have fb : IntKind.i64.wrap ((z : Int) + 8 + (ts.size : Int)) = (z : Int) + 8 + (ts.size : Int) := IntWalk.i64_in _ (by omega)
      have HF := Lib.hid (And.intro fa fb)
      clear hap hsl fa fb
      by_cases hfull : (sl : Int) > room S l
      · rw [if_pos hfull]
        have HD : Hid (decide ((1048576 : Int) < (z : Int) + 8 + (ts.size : Int)) = true) := Lib.hid (decide_eq_true (hroom.1 hfull))
        clear hroom hcode hfull C9 C10 hsz
        go_enter Tryd.func52, Tryd.ntmps52
        go_wp2_with fail
        refine rP (fun _ w1 => RLM w rb r uv w1 S l) rb r (l.file : Int) (z : Int) ts true w (RLM.refl H.out).drew HF.out.1 HF.out.2 HD.out (fun _ => LA.out S) (fun _ => LB.out S) C8.out ?_
        intro w1 hm
        have M := Lib.hid hm
        clear hm C8 LA LB HF HD
        go_wp2_with fail
        go_ret
        exact ⟨rfl, M.out⟩
      · rw [if_neg hfull]
        have HD : Hid (decide ((1048576 : Int) < (z : Int) + 8 + (ts.size : Int)) = false) := Lib.hid (decide_eq_false (fun h => hfull (hroom.2 h)))
        have hcode2 : cd = 0 ∨ cd = 2 := hcode (by have := fun h => hfull (hroom.2 h); omega)
        clear hroom hcode hfull hsz
        rcases hcode2 with rfl | rfl
        · rw [if_pos rfl]
          go_enter Tryd.func52, Tryd.ntmps52
          go_wp2_with fail
          refine rP (fun _ w1 => RLM w rb r uv w1 S l) rb r (l.file : Int) (z : Int) ts false w (RLM.refl H.out).drew HF.out.1 HF.out.2 HD.out (fun _ => LA.out S) (fun _ => LB.out S) C8.out ?_
          intro w1 hm
          have M := Lib.hid hm
          clear hm C8 HF HD
          go_wp2_with fail
          refine rQ (fun _ b w1 => RLM w rb r uv w1 (if b then S2 else S) l) rb r (l.file : Int) 0 ts ⟨fr.toArray⟩ false w1 M.out.drew rfl (fun _ _ => LA.out _) (fun _ _ => LB.out _) C9.out C10.out ?_
          intro w2 hm
          have M2 : Hid (RLM w rb r uv w2 S2 l) := Lib.hid hm
          clear hm C9 C10 M LA LB
          have c3 : w2.cell? ⟨rb, 3, none⟩ = some (.int .i64 (l.n : Int)) := by obtain ⟨_, _, k1, _⟩ := M2.out; exact k1.bk.cell 3
          have f3 : w2.frozen? ⟨rb, 3, none⟩ = false := by obtain ⟨_, _, k1, _⟩ := M2.out; exact k1.bk.fro 3
          have hwn : IntKind.i64.wrap ((l.n : Int) + 1) = (l.n : Int) + 1 := IntWalk.i64_in _ (by have := HN.out; omega)
          go_wp2_with fail
          go_ret
          exact ⟨rfl, M2.out.put rfl⟩
        · rw [if_neg (by simp)]
          go_enter Tryd.func52, Tryd.ntmps52
          go_wp2_with fail
          refine rP (fun _ w1 => RLM w rb r uv w1 S l) rb r (l.file : Int) (z : Int) ts false w (RLM.refl H.out).drew HF.out.1 HF.out.2 HD.out (fun _ => LA.out S) (fun _ => LB.out S) C8.out ?_
          intro w1 hm
          have M := Lib.hid hm
          clear hm C8 HF HD
          go_wp2_with fail
          refine rQ (fun _ b w1 => RLM w rb r uv w1 (if b then S2 else S) l) rb r (l.file : Int) 2 ts ⟨fr.toArray⟩ true w1 M.out.drew rfl (fun _ _ => LA.out _) (fun _ _ => LB.out _) C9.out C10.out ?_
          intro w2 hm
          have M2 : Hid (RLM w rb r uv w2 S2 l) := Lib.hid hm
          clear hm C9 C10 M LA LB
          go_wp2_with fail
          refine (over_any M2.out).mono ?_
          rintro e w3 ⟨rfl, h3⟩
          have M3 := Lib.hid h3
          clear h3 M2
          go_wp2_with fail
          go_ret
          exact ⟨rfl, M3.out⟩
end Go.Proofs.YtmoihgniglomiaaDoor
