/-
  Commands' own text: it is parsed as they are. No program.
-/
import Derived.Test.YtgiibcnakiggaaaDoorPrText
namespace Go.Proofs.YtgiibcnakiggaaaDoor
open Go.RowKit Go.Shelf

/-- The number that is printed for an argument: flags as whole numbers. -/
def argV (c k : Nat) (v : Int) : Int := if isArc c = true ∧ (k = 3 ∨ k = 4) then v * 65536 else v
/-- The arguments' text, a blank ahead of each. -/
def argT (c : Nat) : Nat → List Int → List UInt8
  | _, [] => []
  | k, v :: t => 32 :: (pr (argV c k v) ++ argT c (k + 1) t)
def cmdT (x : Cmd) : List UInt8 := UInt8.ofNat x.letter :: argT x.letter 0 x.args
def printT : List Cmd → List UInt8
  | [] => []
  | x :: t => cmdT x ++ printT t
/-- May this argument stand there? -/
def ArgOk (c k : Nat) (v : Int) : Prop := -4294967296 < v ∧ v < 4294967296 ∧ (isArc c = true → (k < 2 → 0 ≤ v) ∧ (k = 3 ∨ k = 4 → v = 0 ∨ v = 1))
def ArgsOk (c : Nat) : Nat → List Int → Prop
  | _, [] => True
  | k, v :: t => ArgOk c k v ∧ ArgsOk c (k + 1) t
def CmdOk (x : Cmd) : Prop := cntL x.letter = x.args.length ∧ cntL x.letter ≠ 99 ∧ ArgsOk x.letter 0 x.args

theorem letter_lt {c : Nat} (h : cntL c ≠ 99) : c < 256 ∧ kindB (UInt8.ofNat c) = 4 ∧ isBl (UInt8.ofNat c) = false ∧ isCm (UInt8.ofNat c) = false ∧ startB c true = false ∧ startB c false = false ∧ c ≠ 44 := by
  have hc : c = 77 ∨ c = 109 ∨ c = 76 ∨ c = 108 ∨ c = 84 ∨ c = 116 ∨ c = 72 ∨ c = 104 ∨ c = 86 ∨ c = 118 ∨ c = 67 ∨ c = 99 ∨ c = 83 ∨ c = 115 ∨ c = 81 ∨ c = 113 ∨ c = 65 ∨ c = 97 ∨ c = 90 ∨ c = 122 := by
    unfold cntL at h
    repeat' split at h
    all_goals omega
  rcases hc with rfl | rfl | rfl | rfl | rfl | rfl | rfl | rfl | rfl | rfl | rfl | rfl | rfl | rfl | rfl | rfl | rfl | rfl | rfl | rfl <;> decide
/-- Behind a command's text: nothing, or a letter. -/
def CmdEnd (r : List UInt8) : Prop := r = [] ∨ ∃ c t, r = UInt8.ofNat c :: t ∧ cntL c ≠ 99
theorem CmdEnd.stops {r : List UInt8} (h : CmdEnd r) : Stops r := by
  rcases h with rfl | ⟨c, t, rfl, hc⟩
  · exact Or.inl rfl
  · exact Or.inr ⟨_, _, rfl, (letter_lt hc).2.1⟩
/-- The same, or a blank ahead of it. -/
def CmdEnd' (r : List UInt8) : Prop := CmdEnd r ∨ ∃ t, r = 32 :: t ∧ CmdEnd t
theorem CmdEnd'.stops {r : List UInt8} (h : CmdEnd' r) : Stops r := by
  rcases h with h | ⟨t, rfl, _⟩
  · exact h.stops
  · exact Or.inr ⟨32, t, rfl, by decide⟩
theorem arg_stops (c k : Nat) (l : List Int) (r : List UInt8) (h : CmdEnd' r) : Stops (argT c k l ++ r) := by
  cases l with
  | nil => exact h.stops
  | cons v t => exact Or.inr ⟨32, _, rfl, by decide⟩
theorem drop_at (s : ByteArray) (i : Nat) (b : UInt8) (t : List UInt8) (h : s.data.toList.drop i = b :: t) : i < s.size ∧ pk s i = b.toNat ∧ s.data.toList.drop (i + 1) = t := by
  have hi : i < s.size := by
    refine Nat.lt_of_not_le fun hn => ?_
    rw [List.drop_of_length_le (by simpa using hn)] at h
    cases h
  rw [drop_cons s i hi] at h
  obtain ⟨h1, h2⟩ := List.cons.inj h
  exact ⟨hi, by rw [pk_in hi, h1], h2⟩
theorem drop_more (s : ByteArray) (i : Nat) (u v : List UInt8) (h : s.data.toList.drop i = u ++ v) (hi : i ≤ s.size) : s.data.toList.drop (i + u.length) = v ∧ i + u.length ≤ s.size := by
  refine ⟨by rw [← List.drop_drop, h, List.drop_left], ?_⟩
  have := congrArg List.length h
  rw [List.length_drop, Array.length_toList, List.length_append] at this
  have e : s.data.size = s.size := rfl
  omega
theorem pr_flag (v : Int) (h : v = 0 ∨ v = 1) : pr (v * 65536) = [UInt8.ofNat (48 + v.toNat)] := by
  rcases h with rfl | rfl <;> decide +kernel
theorem arc_cnt {c : Nat} (h : isArc c = true) : cntL c = 7 := by
  unfold isArc at h
  simp at h
  rcases h with rfl | rfl <;> rfl
/-- One argument of the text, at its place (behind the gap). -/
theorem one_print (s : ByteArray) (c k i j : Nat) (v : Int) (r : List UInt8) (hs : s.size ≤ 100000) (hj : j ≤ s.size) (hij : (k = 0 ∧ j = i) ∨ (k ≠ 0 ∧ j = (txOf s).gapA i ∧ i < j)) (ho : ArgOk c k v) (hd : s.data.toList.drop j = pr (argV c k v) ++ r) (hr : Stops r) :
    one (txOf s) c k i = (v, 0, j + (pr (argV c k v)).length) := by
  have hk : (if k = 0 then i else (txOf s).gapA i) = j := by
    rcases hij with ⟨h1, h2⟩ | ⟨h1, h2, _⟩
    · rw [if_pos h1, h2]
    · rw [if_neg h1, h2]
  obtain ⟨o1, o2, o3⟩ := ho
  by_cases h : isArc c = false
  · rw [one_plain _ k i h, hk]
    have e : argV c k v = v := by unfold argV; rw [if_neg (by rw [h]; simp)]
    rw [e] at hd ⊢
    exact numT_pr s j v r true hs hj o1 o2 (fun h => by cases h) hd hr
  · replace h : isArc c = true := by simpa using h
    have o3 := o3 h
    by_cases h2 : k = 3 ∨ k = 4
    · rcases hij with ⟨h1, _⟩ | ⟨_, h4, h5⟩
      · omega
      · rw [one_flag _ h (by omega) h2, ← h4]
        have e : argV c k v = v * 65536 := by unfold argV; rw [if_pos ⟨h, h2⟩]
        have hv := o3.2 h2
        rw [e, pr_flag v hv] at hd ⊢
        obtain ⟨q1, q2, _⟩ := drop_at s j _ _ hd
        have q3 : (txOf s).byte j = 48 + v.toNat := by
          show pk s j = _
          rw [q2]; rcases hv with rfl | rfl <;> rfl
        unfold flagA
        rw [q3, if_pos ⟨q1, by rcases hv with rfl | rfl <;> simp⟩]
        refine Prod.ext ?_ rfl
        show ((48 + v.toNat : Nat) : Int) - 48 = v
        rcases hv with rfl | rfl <;> rfl
    · rw [one_num _ i h h2, hk]
      have e : argV c k v = v := by unfold argV; rw [if_neg (fun q => h2 q.2)]
      rw [e] at hd ⊢
      refine numT_pr s j v r _ hs hj o1 o2 (fun q => o3.1 ?_) hd hr
      simp at q
      omega
theorem args_print (s : ByteArray) (c : Nat) (r : List UInt8) (hs : s.size ≤ 100000) (hr : CmdEnd' r) : ∀ (l : List Int) (k i : Nat) (acc : List Int), k ≠ 0 → i ≤ s.size → ArgsOk c k l → s.data.toList.drop i = argT c k l ++ r →
    argsL (txOf s) c l.length k i acc = .inl (acc ++ l, i + (argT c k l).length) := by
  intro l
  induction l with
  | nil => intro k i acc _ _ _ _; simp [argsL, argT]
  | cons v t ih =>
    intro k i acc hk hi ho hd
    have hd' : s.data.toList.drop i = 32 :: (pr (argV c k v) ++ (argT c (k + 1) t ++ r)) := by rw [hd]; simp [argT]
    obtain ⟨q1, _, q3⟩ := drop_at s i _ _ hd'
    obtain ⟨b, u, e1, e2, e3, _⟩ := pr_head (argV c k v)
    have hg : (txOf s).gapA i = i + 1 := by
      show i + gap 0 (s.data.toList.drop i) = i + 1
      rw [hd', e1]
      have x32 : isBl 32 = true := rfl
      have c32 : isCm 32 = false := rfl
      simp [gap, x32, c32, e2, e3]
    have O := one_print s c k i (i + 1) v _ hs (by omega) (Or.inr ⟨hk, hg.symm, by omega⟩) ho.1 q3 (arg_stops c (k + 1) t r hr)
    obtain ⟨q4, q5⟩ := drop_more s (i + 1) _ _ q3 (by omega)
    have I := ih (k + 1) (i + 1 + (pr (argV c k v)).length) (acc ++ [v]) (by omega) q5 ho.2 q4
    rw [List.length_cons]
    unfold argsL
    rw [O]
    simp only [if_true]
    rw [I]
    simp [argT]; omega

theorem print_ends (l : List Cmd) (r : List UInt8) (h : ∀ x ∈ l, CmdOk x) (hr : CmdEnd r) : CmdEnd (printT l ++ r) := by
  cases l with
  | nil => exact hr
  | cons x t => exact Or.inr ⟨x.letter, _, rfl, (h x List.mem_cons_self).2.1⟩
/-- Behind a command's text there are neither blanks nor a comma, nor does a number begin. -/
theorem end_pieces (s : ByteArray) (j : Nat) (r : List UInt8) (hd : s.data.toList.drop j = r) (hr : CmdEnd r) (c : Nat) :
    (txOf s).blkA j = j ∧ ¬ (j < (txOf s).len ∧ (txOf s).byte j = 44) ∧ ¬ (j < (txOf s).len ∧ startB ((txOf s).byte j) (!isArc c) = true) := by
  rcases hr with rfl | ⟨d, t, rfl, hd2⟩
  · have hn : ¬ j < s.size := by
      intro h
      rw [drop_cons s j h] at hd
      cases hd
    refine ⟨?_, fun h => hn h.1, fun h => hn h.1⟩
    show j + blk _ = j
    rw [hd]; rfl
  · have L := letter_lt hd2
    obtain ⟨q1, q2, q3⟩ := drop_at s j _ _ hd
    have q4 : (txOf s).byte j = d := by
      show pk s j = d
      rw [q2]; rw [UInt8.toNat_ofNat']; omega
    refine ⟨?_, ?_, ?_⟩
    · show j + blk _ = j
      rw [hd]; simp [blk, L.2.2.1]
    · rw [q4]; exact fun h => L.2.2.2.2.2.2 h.2
    · rw [q4]
      intro h
      cases hA : isArc c with
      | true => rw [hA] at h; have := L.2.2.2.2.2.1; rw [show startB d (!true) = startB d false from rfl, this] at h; cases h.2
      | false => rw [hA] at h; have := L.2.2.2.2.1; rw [show startB d (!false) = startB d true from rfl, this] at h; cases h.2
/-- How many steps the machine goes for commands. -/
def stepsT : List Cmd → Nat
  | [] => 0
  | x :: t => (if x.args = [] then 1 else 2) + stepsT t
/-- The same, behind the blank that may stand ahead. -/
theorem end_pieces' (s : ByteArray) (j : Nat) (r : List UInt8) (hd : s.data.toList.drop j = r) (hr : CmdEnd' r) (c : Nat) :
    ¬ ((txOf s).blkA j < (txOf s).len ∧ (txOf s).byte ((txOf s).blkA j) = 44) ∧ ¬ ((txOf s).blkA j < (txOf s).len ∧ startB ((txOf s).byte ((txOf s).blkA j)) (!isArc c) = true) := by
  rcases hr with hr | ⟨t, rfl, hr⟩
  · have P := end_pieces s j r hd hr c
    rw [P.1]; exact P.2
  · obtain ⟨q1, _, q3⟩ := drop_at s j _ _ hd
    have P := end_pieces s (j + 1) t q3 hr c
    have e : (txOf s).blkA j = j + 1 := by
      have h1 : j + 1 + blk (s.data.toList.drop (j + 1)) = j + 1 := P.1
      show j + blk (s.data.toList.drop j) = j + 1
      have x32 : isBl 32 = true := rfl
      rw [hd]
      rw [q3] at h1
      simp only [blk, x32, if_true]
      omega
    rw [e]; exact P.2
/-- One command's text is parsed as it is. -/
theorem cmd_print (s : ByteArray) (r : List UInt8) (x : Cmd) (f i : Nat) (out : List Cmd) (hs : s.size ≤ 100000) (hr : CmdEnd' r) (hx : CmdOk x) (hfirst : out = [] → x.letter = 77 ∨ x.letter = 109) (hd : s.data.toList.drop i = cmdT x ++ r) :
    pathL (txOf s) ((if x.args = [] then 1 else 2) + f) none i out = pathL (txOf s) f none ((txOf s).blkA (i + (cmdT x).length)) (out ++ [x]) ∧ i + (cmdT x).length ≤ s.size := by
  obtain ⟨c, args⟩ := x
  have L := letter_lt hx.2.1
  have hd' : s.data.toList.drop i = UInt8.ofNat c :: (argT c 0 args ++ r) := by rw [hd]; simp [cmdT]
  obtain ⟨q1, q2, q3⟩ := drop_at s i _ _ hd'
  have q4 : (txOf s).byte i = c := by
    show pk s i = c
    rw [q2, UInt8.toNat_ofNat']
    have : c < 256 := L.1
    omega
  obtain ⟨q5, q6⟩ := drop_more s (i + 1) _ _ q3 (by omega)
  have hok : ¬ (cntL ((txOf s).byte i) = 99 ∨ (out = [] ∧ (txOf s).byte i ≠ 77 ∧ (txOf s).byte i ≠ 109)) := by
    rw [q4]
    rintro (h | ⟨h1, h2, h3⟩)
    · exact hx.2.1 h
    · rcases hfirst h1 with h | h
      · exact h2 h
      · exact h3 h
  have hlen : i + (cmdT ⟨c, args⟩).length = i + 1 + (argT c 0 args).length := by simp [cmdT]; omega
  have P := end_pieces' s (i + 1 + (argT c 0 args).length) _ q5 hr c
  rw [hlen]
  refine ⟨?_, q6⟩
  cases args with
  | nil =>
    have hc0 : cntL c = 0 := hx.1
    simp only [if_true]
    rw [show 1 + f = f + 1 from by omega]
    conv => lhs; unfold pathL
    rw [if_pos (show i < (txOf s).len from q1), if_neg hok, q4, if_pos hc0]
    simp only [argT, List.length_nil, Nat.add_zero]
  | cons v u =>
    have hcn : cntL c = u.length + 1 := hx.1
    have hv : s.data.toList.drop (i + 1) = 32 :: (pr (argV c 0 v) ++ (argT c 1 u ++ r)) := by rw [q3]; simp [argT]
    obtain ⟨w1, _, w3⟩ := drop_at s (i + 1) _ _ hv
    obtain ⟨b, y, z1, z2, z3, _⟩ := pr_head (argV c 0 v)
    have hb : (txOf s).blkA (i + 1) = i + 2 := by
      show i + 1 + blk (s.data.toList.drop (i + 1)) = i + 2
      rw [hv, z1]
      have x32 : isBl 32 = true := rfl
      simp [blk, x32, z2]
    have O := one_print s c 0 (i + 2) (i + 2) v _ hs (by omega) (Or.inl ⟨rfl, rfl⟩) hx.2.2.1 w3 (arg_stops c 1 u _ hr)
    obtain ⟨w4, w5⟩ := drop_more s (i + 2) _ _ w3 (by omega)
    have A := args_print s c _ hs hr u 1 (i + 2 + (pr (argV c 0 v)).length) [v] (by omega) w5 hx.2.2.2 w4
    have ea : i + 2 + (pr (argV c 0 v)).length + (argT c 1 u).length = i + 1 + (argT c 0 (v :: u)).length := by simp [argT]; omega
    rw [ea] at A
    have AR : argsL (txOf s) c (cntL c) 0 (i + 2) [] = .inl (v :: u, i + 1 + (argT c 0 (v :: u)).length) := by
      rw [hcn]
      unfold argsL
      rw [O]
      simp only [if_true]
      exact A
    rw [if_neg (by simp), show 2 + f = f + 1 + 1 from by omega]
    conv => lhs; unfold pathL
    rw [if_pos (show i < (txOf s).len from q1), if_neg hok, q4, if_neg (by omega), hb]
    conv => lhs; unfold pathL
    rw [AR]
    simp only
    rw [if_neg P.1, if_neg P.2]
/-- Commands' text, with nothing, a letter or a blank behind it, is parsed as they are. -/
theorem path_print (s : ByteArray) (r : List UInt8) (hs : s.size ≤ 100000) (hr : CmdEnd' r) : ∀ (l : List Cmd) (f i : Nat) (out : List Cmd), l ≠ [] → (∀ x ∈ l, CmdOk x) → (out = [] → ∀ x t, l = x :: t → x.letter = 77 ∨ x.letter = 109) → i ≤ s.size → s.data.toList.drop i = printT l ++ r →
    pathL (txOf s) (stepsT l + f) none i out = pathL (txOf s) f none ((txOf s).blkA (i + (printT l).length)) (out ++ l) ∧ i + (printT l).length ≤ s.size := by
  intro l
  induction l with
  | nil => intro f i out h; exact absurd rfl h
  | cons x t ih =>
    intro f i out _ ho hfirst hi hd
    have hx := ho _ List.mem_cons_self
    have ht : ∀ y ∈ t, CmdOk y := fun y hy => ho y (List.mem_cons_of_mem _ hy)
    have hd' : s.data.toList.drop i = cmdT x ++ (printT t ++ r) := by rw [hd]; simp [printT]
    cases t with
    | nil =>
      have := cmd_print s r x f i out hs hr hx (fun h => hfirst h x [] rfl) (by rw [hd']; rfl)
      simpa [printT, stepsT] using this
    | cons x2 t2 =>
      have hE : CmdEnd (printT (x2 :: t2) ++ r) := Or.inr ⟨x2.letter, _, rfl, (ht x2 List.mem_cons_self).2.1⟩
      obtain ⟨C1, C2⟩ := cmd_print s _ x (stepsT (x2 :: t2) + f) i out hs (Or.inl hE) hx (fun h => hfirst h x _ rfl) hd'
      obtain ⟨q5, _⟩ := drop_more s i _ _ hd' hi
      have eb := (end_pieces s (i + (cmdT x).length) _ q5 hE 0).1
      obtain ⟨I1, I2⟩ := ih f (i + (cmdT x).length) (out ++ [x]) (by simp) ht (fun h => by simp at h) C2 q5
      have hl : i + (printT (x :: x2 :: t2)).length = i + (cmdT x).length + (printT (x2 :: t2)).length := by
        rw [show printT (x :: x2 :: t2) = cmdT x ++ printT (x2 :: t2) from rfl, List.length_append]; omega
      refine ⟨?_, by rw [hl]; exact I2⟩
      rw [show stepsT (x :: x2 :: t2) + f = (if x.args = [] then 1 else 2) + (stepsT (x2 :: t2) + f) from by rw [show stepsT (x :: x2 :: t2) = (if x.args = [] then 1 else 2) + stepsT (x2 :: t2) from rfl]; omega, C1, eb, I1, hl]
      simp

theorem steps_le (l : List Cmd) : stepsT l ≤ (printT l).length := by
  induction l with
  | nil => exact Nat.le_refl _
  | cons x t ih =>
    obtain ⟨c, args⟩ := x
    unfold stepsT printT
    rw [List.length_append]
    have : (if (⟨c, args⟩ : Cmd).args = [] then 1 else 2) ≤ (cmdT ⟨c, args⟩).length := by
      cases args with
      | nil => simp [cmdT, argT]
      | cons v u => simp [cmdT, argT]
    omega
/-- Are commands right, and is the first one M or m? -/
def MayL (l : List Cmd) : Prop := (∀ x ∈ l, CmdOk x) ∧ ∀ x t, l = x :: t → x.letter = 77 ∨ x.letter = 109
theorem may_end (l : List Cmd) (h : MayL l) : CmdEnd (printT l) := by
  have := print_ends l [] h.1 (Or.inl rfl)
  rwa [List.append_nil] at this
/-- From a place on, where nothing else stands. -/
theorem tail_print (s : ByteArray) (l : List Cmd) (F i : Nat) (out : List Cmd) (hs : s.size ≤ 100000) (hl : MayL l) (hi : i ≤ s.size) (hd : s.data.toList.drop i = printT l) (hF : stepsT l ≤ F) : pathL (txOf s) F none i out = (out ++ l, -1, 0) := by
  have hend : ∀ j, j ≤ s.size → s.data.toList.drop j = [] → j = (txOf s).len := by
    intro j h1 h2
    show j = s.size
    have := congrArg List.length h2
    rw [List.length_drop, Array.length_toList] at this
    have e : s.data.size = s.size := rfl
    simp at this
    omega
  by_cases h0 : l = []
  · subst h0
    rw [hend i hi hd, path_end, List.append_nil]
  · obtain ⟨f, rfl⟩ : ∃ f, F = stepsT l + f := ⟨F - stepsT l, by omega⟩
    have hd' : s.data.toList.drop i = printT l ++ [] := by rw [hd, List.append_nil]
    obtain ⟨P1, P2⟩ := path_print s [] hs (Or.inl (Or.inl rfl)) l f i out h0 hl.1 (fun _ => hl.2) hi hd'
    obtain ⟨q1, q2⟩ := drop_more s i _ _ hd' hi
    rw [P1, (end_pieces s _ [] q1 (Or.inl rfl) 0).1, hend _ q2 q1, path_end]
/-- What is printed is parsed again. -/
theorem all_print (s : ByteArray) (l : List Cmd) (hs : s.size ≤ 100000) (hl : MayL l) (hd : s.data.toList = printT l) : pathAll (txOf s) = (l, -1, 0) := by
  have hd0 : s.data.toList.drop 0 = printT l := by rw [List.drop_zero]; exact hd
  have hz : (printT l).length = s.size := by rw [← hd]; exact Array.length_toList
  unfold pathAll
  rw [(end_pieces s 0 _ hd0 (may_end l hl) 0).1]
  have := tail_print s l ((txOf s).len + 1) 0 [] hs hl (Nat.zero_le _) hd0 (by have := steps_le l; show _ ≤ s.size + 1; omega)
  simpa using this
/-- Path data of two lists, with a blank between, are those of both. -/
theorem all_join (s : ByteArray) (a b : List Cmd) (hs : s.size ≤ 100000) (ha : MayL a) (hb : MayL b) (hd : s.data.toList = printT a ++ 32 :: printT b) : pathAll (txOf s) = (a ++ b, -1, 0) := by
  have hd0 : s.data.toList.drop 0 = printT a ++ 32 :: printT b := by rw [List.drop_zero]; exact hd
  have hz : (printT a).length + 1 + (printT b).length = s.size := by
    have : s.data.toList.length = s.size := Array.length_toList
    rw [hd, List.length_append, List.length_cons] at this; omega
  obtain ⟨q1, q2⟩ := drop_more s 0 _ _ hd0 (Nat.zero_le _)
  rw [Nat.zero_add] at q1 q2
  obtain ⟨w1, _, w3⟩ := drop_at s _ _ _ q1
  have eb : (txOf s).blkA (printT a).length = (printT a).length + 1 := by
    have P : (printT a).length + 1 + blk (s.data.toList.drop ((printT a).length + 1)) = (printT a).length + 1 := (end_pieces s _ _ w3 (may_end b hb) 0).1
    show (printT a).length + blk (s.data.toList.drop (printT a).length) = _
    have x32 : isBl 32 = true := rfl
    rw [q1]
    rw [w3] at P
    simp only [blk, x32, if_true]
    omega
  have s1 := steps_le a
  have s2 := steps_le b
  unfold pathAll
  by_cases h0 : a = []
  · subst h0
    rw [show (txOf s).blkA 0 = 1 from eb]
    exact tail_print s b _ _ _ hs hb (by omega) w3 (by show _ ≤ s.size + 1; omega)
  · have e0 : (txOf s).blkA 0 = 0 := by
      refine (end_pieces s 0 _ hd0 ?_ 0).1
      cases a with
      | nil => exact absurd rfl h0
      | cons x t => exact Or.inr ⟨x.letter, _, rfl, (ha.1 x List.mem_cons_self).2.1⟩
    obtain ⟨f, hf⟩ : ∃ f, (txOf s).len + 1 = stepsT a + f := ⟨s.size + 1 - stepsT a, by show s.size + 1 = _; omega⟩
    have hsz : (txOf s).len = s.size := rfl
    obtain ⟨P1, _⟩ := path_print s _ hs (Or.inr ⟨_, rfl, may_end b hb⟩) a f 0 [] h0 ha.1 (fun _ => ha.2) (Nat.zero_le _) hd0
    rw [e0, hf, P1, Nat.zero_add, eb, List.nil_append]
    exact tail_print s b _ _ _ hs hb (by omega) w3 (by omega)
end Go.Proofs.YtgiibcnakiggaaaDoor
