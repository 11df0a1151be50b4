/-
  Package curve: split, by whatever function puts two numbers together. (Typed by a program: wip/gen_crv3.py.)
-/
import Derived.Test.YtgkjbmejfcijkaaCrvPut
import Derived.Test.YtgkjbmejfcijkaaRefCrvC
namespace Go.Proofs.Ytgkjbmejfcijkaa
open Go.RowKit Go.Shelf

/-- What a curve is split into by m. -/
def spA (m : Int → Int → Int) (c : Crv) : Crv := ⟨c.px, c.py, m c.px c.qx, m c.py c.qy, m (m c.px c.qx) (m c.qx c.rx), m (m c.py c.qy) (m c.qy c.ry), m (m (m c.px c.qx) (m c.qx c.rx)) (m (m c.qx c.rx) (m c.rx c.sx)), m (m (m c.py c.qy) (m c.qy c.ry)) (m (m c.qy c.ry) (m c.ry c.sy))⟩
def spB (m : Int → Int → Int) (c : Crv) : Crv := ⟨m (m (m c.px c.qx) (m c.qx c.rx)) (m (m c.qx c.rx) (m c.rx c.sx)), m (m (m c.py c.qy) (m c.qy c.ry)) (m (m c.qy c.ry) (m c.ry c.sy)), m (m c.qx c.rx) (m c.rx c.sx), m (m c.qy c.ry) (m c.ry c.sy), m c.rx c.sx, m c.ry c.sy, c.sx, c.sy⟩
theorem CBox.drew {n : Nat} {t : TypeId} {cs : Array Value} {w : World} (h : CBox n t cs w) : CBox n t cs w.drew := h
theorem below_at {w w' : World} {B n o o' : Nat} (h : Below B w w') (hn : B ≤ n) (x y : Value) : Below B w ((w'.setCell ⟨n, o, none⟩ x).setCell ⟨n, o', none⟩ y) :=
  Below.setCell (Below.setCell h (by exact hn) _) (by exact hn) _
theorem arr2_ret {f : Func} {k l : Nat} (hres : f.results = #[ResultVar.cell k 79, ResultVar.cell l 79]) {n m : Nat} {w wr : World} {a0 a1 a2 a3 a4 a5 a6 a7 b0 b1 b2 b3 b4 b5 b6 b7 : Value} {ts : Array Value}
    (hp : CBox n 79 #[a0, a1, a2, a3, a4, a5, a6, a7] wr) (hq : CBox m 79 #[b0, b1, b2, b3, b4, b5, b6, b7] wr) (hb : Below w.heap.size w wr) (hts : ts[k]? = some (.pointer (some ⟨n, 0, none⟩))) (htl : ts[l]? = some (.pointer (some ⟨m, 0, none⟩))) :
    bodyPost Try.prog f (fun e w' => e = .returned (.tuple #[.agg #[a0, a1, a2, a3, a4, a5, a6, a7], .agg #[b0, b1, b2, b3, b4, b5, b6, b7]]) ∧ Below w.heap.size w w') .ret { tmps := ts, defers := [] } wr := by
  have c0 : wr.cell? ⟨n, 0, none⟩ = some a0 := hp.c 0 rfl; have c1 : wr.cell? ⟨n, 1, none⟩ = some a1 := hp.c 1 rfl; have c2 : wr.cell? ⟨n, 2, none⟩ = some a2 := hp.c 2 rfl; have c3 : wr.cell? ⟨n, 3, none⟩ = some a3 := hp.c 3 rfl
  have c4 : wr.cell? ⟨n, 4, none⟩ = some a4 := hp.c 4 rfl; have c5 : wr.cell? ⟨n, 5, none⟩ = some a5 := hp.c 5 rfl; have c6 : wr.cell? ⟨n, 6, none⟩ = some a6 := hp.c 6 rfl; have c7 : wr.cell? ⟨n, 7, none⟩ = some a7 := hp.c 7 rfl
  have d0 : wr.cell? ⟨m, 0, none⟩ = some b0 := hq.c 0 rfl; have d1 : wr.cell? ⟨m, 1, none⟩ = some b1 := hq.c 1 rfl; have d2 : wr.cell? ⟨m, 2, none⟩ = some b2 := hq.c 2 rfl; have d3 : wr.cell? ⟨m, 3, none⟩ = some b3 := hq.c 3 rfl
  have d4 : wr.cell? ⟨m, 4, none⟩ = some b4 := hq.c 4 rfl; have d5 : wr.cell? ⟨m, 5, none⟩ = some b5 := hq.c 5 rfl; have d6 : wr.cell? ⟨m, 6, none⟩ = some b6 := hq.c 6 rfl; have d7 : wr.cell? ⟨m, 7, none⟩ = some b7 := hq.c 7 rfl
  exact bodyPost_ret (v := .tuple #[.agg #[a0, a1, a2, a3, a4, a5, a6, a7], .agg #[b0, b1, b2, b3, b4, b5, b6, b7]]) (by simp [results, hres, go_sem, c0, c1, c2, c3, c4, c5, c6, c7, d0, d1, d2, d3, d4, d5, d6, d7, hts, htl]) rfl ⟨rfl, hb⟩
set_option maxHeartbeats 16000000 in
set_option maxRecDepth 100000 in
theorem split11 {g : Nat} {lb : Array Value} {K : Nat} {J : World → Prop} {m : Int → Int → Int} (hw : How g lb K J m) (c : Crv) (w : World) (hc : c.right) (hK : K ≤ w.heap.size) (hJ : J w) :
    Calls Try.prog 45 #[c.val, .func (.func g) #[] lb] w fun e w' => e = .returned (.tuple #[(spA m c).val, (spB m c).val]) ∧ Below w.heap.size w w' := by
  obtain ⟨px, py, qx, qy, rx, ry, sx, sy⟩ := c
  unfold Crv.right at hc
  dsimp only at hc
  obtain ⟨⟨kpx, kpy⟩, ⟨kqx, kqy⟩, ⟨krx, kry⟩, ksx, ksy⟩ := hc
  unfold spA spB Crv.val Crv.arr
  dsimp only
  have Ma : Hid (∀ w', Below w.heap.size w w' → Calls Try.prog 54 #[.agg #[.int .i64 px, .int .i64 py], .agg #[.int .i64 qx, .int .i64 qy], .func (.func g) #[] lb] w' fun e w2 => e = .returned (.agg #[.int .i64 (m px qx), .int .i64 (m py qy)]) ∧ Below w'.heap.size w' w2) := Lib.hid (fun w' b => put11 hw px py qx qy w' kpx kpy kqx kqy (Nat.le_trans hK b.size) (hw.next _ _ _ hK hJ b))
  have kax := hw.inn _ _ kpx kqx
  generalize m px qx = ax at *
  have kay := hw.inn _ _ kpy kqy
  generalize m py qy = ay at *
  have Mh : Hid (∀ w', Below w.heap.size w w' → Calls Try.prog 54 #[.agg #[.int .i64 qx, .int .i64 qy], .agg #[.int .i64 rx, .int .i64 ry], .func (.func g) #[] lb] w' fun e w2 => e = .returned (.agg #[.int .i64 (m qx rx), .int .i64 (m qy ry)]) ∧ Below w'.heap.size w' w2) := Lib.hid (fun w' b => put11 hw qx qy rx ry w' kqx kqy krx kry (Nat.le_trans hK b.size) (hw.next _ _ _ hK hJ b))
  have khx := hw.inn _ _ kqx krx
  generalize m qx rx = hx at *
  have khy := hw.inn _ _ kqy kry
  generalize m qy ry = hy at *
  have Md : Hid (∀ w', Below w.heap.size w w' → Calls Try.prog 54 #[.agg #[.int .i64 rx, .int .i64 ry], .agg #[.int .i64 sx, .int .i64 sy], .func (.func g) #[] lb] w' fun e w2 => e = .returned (.agg #[.int .i64 (m rx sx), .int .i64 (m ry sy)]) ∧ Below w'.heap.size w' w2) := Lib.hid (fun w' b => put11 hw rx ry sx sy w' krx kry ksx ksy (Nat.le_trans hK b.size) (hw.next _ _ _ hK hJ b))
  have kdx := hw.inn _ _ krx ksx
  generalize m rx sx = dx at *
  have kdy := hw.inn _ _ kry ksy
  generalize m ry sy = dy at *
  have Me : Hid (∀ w', Below w.heap.size w w' → Calls Try.prog 54 #[.agg #[.int .i64 ax, .int .i64 ay], .agg #[.int .i64 hx, .int .i64 hy], .func (.func g) #[] lb] w' fun e w2 => e = .returned (.agg #[.int .i64 (m ax hx), .int .i64 (m ay hy)]) ∧ Below w'.heap.size w' w2) := Lib.hid (fun w' b => put11 hw ax ay hx hy w' kax kay khx khy (Nat.le_trans hK b.size) (hw.next _ _ _ hK hJ b))
  have kex := hw.inn _ _ kax khx
  generalize m ax hx = ex at *
  have key := hw.inn _ _ kay khy
  generalize m ay hy = ey at *
  have Mf : Hid (∀ w', Below w.heap.size w w' → Calls Try.prog 54 #[.agg #[.int .i64 hx, .int .i64 hy], .agg #[.int .i64 dx, .int .i64 dy], .func (.func g) #[] lb] w' fun e w2 => e = .returned (.agg #[.int .i64 (m hx dx), .int .i64 (m hy dy)]) ∧ Below w'.heap.size w' w2) := Lib.hid (fun w' b => put11 hw hx hy dx dy w' khx khy kdx kdy (Nat.le_trans hK b.size) (hw.next _ _ _ hK hJ b))
  have kfx := hw.inn _ _ khx kdx
  generalize m hx dx = fx at *
  have kfy := hw.inn _ _ khy kdy
  generalize m hy dy = fy at *
  have Mg : Hid (∀ w', Below w.heap.size w w' → Calls Try.prog 54 #[.agg #[.int .i64 ex, .int .i64 ey], .agg #[.int .i64 fx, .int .i64 fy], .func (.func g) #[] lb] w' fun e w2 => e = .returned (.agg #[.int .i64 (m ex fx), .int .i64 (m ey fy)]) ∧ Below w'.heap.size w' w2) := Lib.hid (fun w' b => put11 hw ex ey fx fy w' kex key kfx kfy (Nat.le_trans hK b.size) (hw.next _ _ _ hK hJ b))
  have kgx := hw.inn _ _ kex kfx
  generalize m ex fx = gx at *
  have kgy := hw.inn _ _ key kfy
  generalize m ey fy = gy at *
  clear hw hK hJ kpx kpy kqx kqy krx kry ksx ksy kax kay khx khy kdx kdy kex key kfx kfy kgx kgy
  obtain ⟨k1, k2, k3, k4⟩ := boxes_three w #[.int .i64 px, .int .i64 py, .int .i64 qx, .int .i64 qy, .int .i64 rx, .int .i64 ry, .int .i64 sx, .int .i64 sy] #[.int .i64 0, .int .i64 0, .int .i64 0, .int .i64 0, .int .i64 0, .int .i64 0, .int .i64 0, .int .i64 0] #[.int .i64 0, .int .i64 0, .int .i64 0, .int .i64 0, .int .i64 0, .int .i64 0, .int .i64 0, .int .i64 0] 79 79 79
  have HL0 := Lib.hid k1; have HY0 := Lib.hid k2; have HZ0 := Lib.hid k3; have HB0 := Lib.hid k4
  clear k1 k2 k3 k4
  go_enter Try.func45, Try.ntmps45
  go_upto_region 1 with fail
  generalize (((w.alloc (.cells #[.int .i64 px, .int .i64 py, .int .i64 qx, .int .i64 qy, .int .i64 rx, .int .i64 ry, .int .i64 sx, .int .i64 sy] 79)).alloc (.cells #[.int .i64 0, .int .i64 0, .int .i64 0, .int .i64 0, .int .i64 0, .int .i64 0, .int .i64 0, .int .i64 0] 79)).alloc (.cells #[.int .i64 0, .int .i64 0, .int .i64 0, .int .i64 0, .int .i64 0, .int .i64 0, .int .i64 0, .int .i64 0] 79)) = w1 at *
  go_wp2_with fail
  go_loopw [6] (fun sv wr => Below w.heap.size w wr ∧ ((sv = .int .i64 3 ∧ CBox w.heap.size 79 #[.int .i64 px, .int .i64 py, .int .i64 qx, .int .i64 qy, .int .i64 rx, .int .i64 ry, .int .i64 sx, .int .i64 sy] wr ∧ CBox (w.heap.size + 1) 79 #[.int .i64 0, .int .i64 0, .int .i64 0, .int .i64 0, .int .i64 0, .int .i64 0, .int .i64 0, .int .i64 0] wr ∧ CBox (w.heap.size + 1 + 1) 79 #[.int .i64 0, .int .i64 0, .int .i64 0, .int .i64 0, .int .i64 0, .int .i64 0, .int .i64 0, .int .i64 0] wr) ∨ (sv = .int .i64 2 ∧ CBox w.heap.size 79 #[.int .i64 ax, .int .i64 ay, .int .i64 hx, .int .i64 hy, .int .i64 dx, .int .i64 dy, .int .i64 sx, .int .i64 sy] wr ∧ CBox (w.heap.size + 1) 79 #[.int .i64 px, .int .i64 py, .int .i64 0, .int .i64 0, .int .i64 0, .int .i64 0, .int .i64 0, .int .i64 0] wr ∧ CBox (w.heap.size + 1 + 1) 79 #[.int .i64 0, .int .i64 0, .int .i64 0, .int .i64 0, .int .i64 0, .int .i64 0, .int .i64 sx, .int .i64 sy] wr) ∨ (sv = .int .i64 1 ∧ CBox w.heap.size 79 #[.int .i64 ex, .int .i64 ey, .int .i64 fx, .int .i64 fy, .int .i64 dx, .int .i64 dy, .int .i64 sx, .int .i64 sy] wr ∧ CBox (w.heap.size + 1) 79 #[.int .i64 px, .int .i64 py, .int .i64 ax, .int .i64 ay, .int .i64 0, .int .i64 0, .int .i64 0, .int .i64 0] wr ∧ CBox (w.heap.size + 1 + 1) 79 #[.int .i64 0, .int .i64 0, .int .i64 0, .int .i64 0, .int .i64 dx, .int .i64 dy, .int .i64 sx, .int .i64 sy] wr) ∨ (sv = .int .i64 0 ∧ CBox w.heap.size 79 #[.int .i64 gx, .int .i64 gy, .int .i64 fx, .int .i64 fy, .int .i64 dx, .int .i64 dy, .int .i64 sx, .int .i64 sy] wr ∧ CBox (w.heap.size + 1) 79 #[.int .i64 px, .int .i64 py, .int .i64 ax, .int .i64 ay, .int .i64 ex, .int .i64 ey, .int .i64 0, .int .i64 0] wr ∧ CBox (w.heap.size + 1 + 1) 79 #[.int .i64 0, .int .i64 0, .int .i64 fx, .int .i64 fy, .int .i64 dx, .int .i64 dy, .int .i64 sx, .int .i64 sy] wr) ∨ (sv = .int .i64 (-1) ∧ CBox w.heap.size 79 #[.int .i64 gx, .int .i64 gy, .int .i64 fx, .int .i64 fy, .int .i64 dx, .int .i64 dy, .int .i64 sx, .int .i64 sy] wr ∧ CBox (w.heap.size + 1) 79 #[.int .i64 px, .int .i64 py, .int .i64 ax, .int .i64 ay, .int .i64 ex, .int .i64 ey, .int .i64 gx, .int .i64 gy] wr ∧ CBox (w.heap.size + 1 + 1) 79 #[.int .i64 gx, .int .i64 gy, .int .i64 fx, .int .i64 fy, .int .i64 dx, .int .i64 dy, .int .i64 sx, .int .i64 sy] wr))) (fun sv _ => (intOf sv + 1).toNat)
  case atStart => exact ⟨HB0.out, Or.inl ⟨rfl, HL0.out, HY0.out, HZ0.out⟩⟩
  case round =>
    obtain ⟨hb, hrel⟩ := hrel
    have HB1 := Lib.hid hb
    clear hb HB0 HL0 HY0 HZ0
    rcases hrel with ⟨rfl, hl, hy, hz⟩ | ⟨rfl, hl, hy, hz⟩ | ⟨rfl, hl, hy, hz⟩ | ⟨rfl, hl, hy, hz⟩ | ⟨rfl, hl, hy, hz⟩
    · have HL1 := Lib.hid hl; have HY1 := Lib.hid hy; have HZ1 := Lib.hid hz
      clear hl hy hz
      go_upto_region 4 with fail
      go_cut [] (fun wc => Below w.heap.size w wc ∧ CBox w.heap.size 79 #[.int .i64 px, .int .i64 py, .int .i64 qx, .int .i64 qy, .int .i64 rx, .int .i64 ry, .int .i64 sx, .int .i64 sy] wc ∧ CBox (w.heap.size + 1) 79 #[.int .i64 px, .int .i64 py, .int .i64 0, .int .i64 0, .int .i64 0, .int .i64 0, .int .i64 0, .int .i64 0] wc ∧ CBox (w.heap.size + 1 + 1) 79 #[.int .i64 0, .int .i64 0, .int .i64 0, .int .i64 0, .int .i64 0, .int .i64 0, .int .i64 sx, .int .i64 sy] wc)
      case first =>
        have xL0 : wr.cell? ⟨w.heap.size, 0, none⟩ = some (.int .i64 px) := HL1.out.c 0 rfl
        have xL1 : wr.cell? ⟨w.heap.size, 1, none⟩ = some (.int .i64 py) := HL1.out.c 1 rfl
        have xL2 : wr.cell? ⟨w.heap.size, 2, none⟩ = some (.int .i64 qx) := HL1.out.c 2 rfl
        have xL3 : wr.cell? ⟨w.heap.size, 3, none⟩ = some (.int .i64 qy) := HL1.out.c 3 rfl
        have xL4 : wr.cell? ⟨w.heap.size, 4, none⟩ = some (.int .i64 rx) := HL1.out.c 4 rfl
        have xL5 : wr.cell? ⟨w.heap.size, 5, none⟩ = some (.int .i64 ry) := HL1.out.c 5 rfl
        have xL6 : wr.cell? ⟨w.heap.size, 6, none⟩ = some (.int .i64 sx) := HL1.out.c 6 rfl
        have xL7 : wr.cell? ⟨w.heap.size, 7, none⟩ = some (.int .i64 sy) := HL1.out.c 7 rfl
        have uY0 : wr.cell? ⟨w.heap.size + 1, 0, none⟩ = some (.int .i64 0) := HY1.out.c 0 rfl; have rY0 := HY1.out.z 0
        have uY1 : wr.cell? ⟨w.heap.size + 1, 1, none⟩ = some (.int .i64 0) := HY1.out.c 1 rfl; have rY1 := HY1.out.z 1
        have uZ6 : wr.cell? ⟨w.heap.size + 1 + 1, 6, none⟩ = some (.int .i64 0) := HZ1.out.c 6 rfl; have rZ6 := HZ1.out.z 6
        have uZ7 : wr.cell? ⟨w.heap.size + 1 + 1, 7, none⟩ = some (.int .i64 0) := HZ1.out.c 7 rfl; have rZ7 := HZ1.out.z 7
        go_region_with fail
        all_goals
          go_wp2_with fail
          go_meet
          refine ⟨(below_at (below_at HB1.out (by omega) _ _) (by omega) _ _).drew, ((((HL1.out.other (by omega) _ _).other (by omega) _ _).other (by omega) _ _).other (by omega) _ _).drew, ?_, ?_⟩
          · exact ((((HY1.out.set 0 (.int .i64 px) (show (0 : Nat) < 8 by decide)).set 1 (.int .i64 py) (show (1 : Nat) < 8 by decide)).other (by omega) _ _).other (by omega) _ _).drew
          · exact ((((HZ1.out.other (by omega) _ _).other (by omega) _ _).set 6 (.int .i64 sx) (show (6 : Nat) < 8 by decide)).set 7 (.int .i64 sy) (show (7 : Nat) < 8 by decide)).drew
      case rest =>
        obtain ⟨hb2, hl2, hy2, hz2⟩ := hcut
        have HB2 := Lib.hid hb2; have HL2 := Lib.hid hl2; have HY2 := Lib.hid hy2; have HZ2 := Lib.hid hz2
        clear hb2 hl2 hy2 hz2 HB1 HL1 HY1 HZ1
        go_wp2_with fail
        go_loopw [23] (fun iv wi => Below w.heap.size w wi ∧ ((iv = .int .i64 0 ∧ CBox w.heap.size 79 #[.int .i64 px, .int .i64 py, .int .i64 qx, .int .i64 qy, .int .i64 rx, .int .i64 ry, .int .i64 sx, .int .i64 sy] wi ∧ CBox (w.heap.size + 1) 79 #[.int .i64 px, .int .i64 py, .int .i64 0, .int .i64 0, .int .i64 0, .int .i64 0, .int .i64 0, .int .i64 0] wi ∧ CBox (w.heap.size + 1 + 1) 79 #[.int .i64 0, .int .i64 0, .int .i64 0, .int .i64 0, .int .i64 0, .int .i64 0, .int .i64 sx, .int .i64 sy] wi) ∨ (iv = .int .i64 1 ∧ CBox w.heap.size 79 #[.int .i64 ax, .int .i64 ay, .int .i64 qx, .int .i64 qy, .int .i64 rx, .int .i64 ry, .int .i64 sx, .int .i64 sy] wi ∧ CBox (w.heap.size + 1) 79 #[.int .i64 px, .int .i64 py, .int .i64 0, .int .i64 0, .int .i64 0, .int .i64 0, .int .i64 0, .int .i64 0] wi ∧ CBox (w.heap.size + 1 + 1) 79 #[.int .i64 0, .int .i64 0, .int .i64 0, .int .i64 0, .int .i64 0, .int .i64 0, .int .i64 sx, .int .i64 sy] wi) ∨ (iv = .int .i64 2 ∧ CBox w.heap.size 79 #[.int .i64 ax, .int .i64 ay, .int .i64 hx, .int .i64 hy, .int .i64 rx, .int .i64 ry, .int .i64 sx, .int .i64 sy] wi ∧ CBox (w.heap.size + 1) 79 #[.int .i64 px, .int .i64 py, .int .i64 0, .int .i64 0, .int .i64 0, .int .i64 0, .int .i64 0, .int .i64 0] wi ∧ CBox (w.heap.size + 1 + 1) 79 #[.int .i64 0, .int .i64 0, .int .i64 0, .int .i64 0, .int .i64 0, .int .i64 0, .int .i64 sx, .int .i64 sy] wi) ∨ (iv = .int .i64 3 ∧ CBox w.heap.size 79 #[.int .i64 ax, .int .i64 ay, .int .i64 hx, .int .i64 hy, .int .i64 dx, .int .i64 dy, .int .i64 sx, .int .i64 sy] wi ∧ CBox (w.heap.size + 1) 79 #[.int .i64 px, .int .i64 py, .int .i64 0, .int .i64 0, .int .i64 0, .int .i64 0, .int .i64 0, .int .i64 0] wi ∧ CBox (w.heap.size + 1 + 1) 79 #[.int .i64 0, .int .i64 0, .int .i64 0, .int .i64 0, .int .i64 0, .int .i64 0, .int .i64 sx, .int .i64 sy] wi))) (fun iv _ => 3 - (intOf iv).toNat)
        case atStart => exact ⟨HB2.out, Or.inl ⟨rfl, HL2.out, HY2.out, HZ2.out⟩⟩
        case round =>
          obtain ⟨hb3, hrel⟩ := hrel
          have HB3 := Lib.hid hb3
          clear hb3 HB2 HL2 HY2 HZ2
          rcases hrel with ⟨rfl, hl3, hy3, hz3⟩ | ⟨rfl, hl3, hy3, hz3⟩ | ⟨rfl, hl3, hy3, hz3⟩ | ⟨rfl, hl3, hy3, hz3⟩
          · have HL3 := Lib.hid hl3; have HY3 := Lib.hid hy3; have HZ3 := Lib.hid hz3
            clear hl3 hy3 hz3
            go_upto_block 3 with fail
            have xL0 : wr.cell? ⟨w.heap.size, 0, none⟩ = some (.int .i64 px) := HL3.out.c 0 rfl
            have xL1 : wr.cell? ⟨w.heap.size, 1, none⟩ = some (.int .i64 py) := HL3.out.c 1 rfl
            have xL2 : wr.cell? ⟨w.heap.size, 2, none⟩ = some (.int .i64 qx) := HL3.out.c 2 rfl
            have xL3 : wr.cell? ⟨w.heap.size, 3, none⟩ = some (.int .i64 qy) := HL3.out.c 3 rfl
            have ew1 : IntKind.i64.wrap (0 + 1) = 1 := by decide
            have ew2 : IntKind.i64.wrap 1 = 1 := by decide
            go_cut [] (fun wc => Below w.heap.size w wc ∧ CBox w.heap.size 79 #[.int .i64 ax, .int .i64 ay, .int .i64 qx, .int .i64 qy, .int .i64 rx, .int .i64 ry, .int .i64 sx, .int .i64 sy] wc ∧ CBox (w.heap.size + 1) 79 #[.int .i64 px, .int .i64 py, .int .i64 0, .int .i64 0, .int .i64 0, .int .i64 0, .int .i64 0, .int .i64 0] wc ∧ CBox (w.heap.size + 1 + 1) 79 #[.int .i64 0, .int .i64 0, .int .i64 0, .int .i64 0, .int .i64 0, .int .i64 0, .int .i64 sx, .int .i64 sy] wc)
            case first =>
              have HBd := Lib.hid HB3.out.drew; have HLd := Lib.hid HL3.out.drew; have HYd := Lib.hid HY3.out.drew; have HZd := Lib.hid HZ3.out.drew
              go_upto_region 8 with fail
              go_region_with (first | ((with_reducible refine (Ma.out _ HBd.out).mono ?_); rintro e v1 ⟨rfl, bc1⟩; have HBc1 := Lib.hid bc1; clear xL0 xL1 xL2 xL3; have hL_ := HLd.out.next HBc1.out; have xL0 : v1.cell? ⟨w.heap.size, 0, none⟩ = some (.int .i64 px) := hL_.c 0 rfl; have rL0 := hL_.z 0; have xL1 : v1.cell? ⟨w.heap.size, 1, none⟩ = some (.int .i64 py) := hL_.c 1 rfl; have rL1 := hL_.z 1; clear hL_ bc1))
              all_goals
                have HB4 := Lib.hid (HBd.out.trans (HBc1.out.mono HBd.out.size)); have HL4 := Lib.hid (HLd.out.next HBc1.out); have HY4 := Lib.hid (HYd.out.next HBc1.out); have HZ4 := Lib.hid (HZd.out.next HBc1.out)
                go_wp2_with fail
                go_meet
                refine ⟨below_at HB4.out (by omega) _ _, ?_, ?_, ?_⟩
                · exact (HL4.out.set 0 (.int .i64 ax) (show (0 : Nat) < 8 by decide)).set 1 (.int .i64 ay) (show (1 : Nat) < 8 by decide)
                · exact (HY4.out.other (by omega) _ _).other (by omega) _ _
                · exact (HZ4.out.other (by omega) _ _).other (by omega) _ _
            case rest =>
              obtain ⟨hb4, hl4, hy4, hz4⟩ := hcut
              have HB4 := Lib.hid hb4; have HL4 := Lib.hid hl4; have HY4 := Lib.hid hy4; have HZ4 := Lib.hid hz4
              clear hb4 hl4 hy4 hz4
              go_wp2_with fail
              go_roundw
              case rel => exact ⟨HB4.out, Or.inr (Or.inl ⟨by go_num, HL4.out, HY4.out, HZ4.out⟩)⟩
              case measure => simp [intOf]
          · have HL3 := Lib.hid hl3; have HY3 := Lib.hid hy3; have HZ3 := Lib.hid hz3
            clear hl3 hy3 hz3
            go_upto_block 3 with fail
            have xL2 : wr.cell? ⟨w.heap.size, 2, none⟩ = some (.int .i64 qx) := HL3.out.c 2 rfl
            have xL3 : wr.cell? ⟨w.heap.size, 3, none⟩ = some (.int .i64 qy) := HL3.out.c 3 rfl
            have xL4 : wr.cell? ⟨w.heap.size, 4, none⟩ = some (.int .i64 rx) := HL3.out.c 4 rfl
            have xL5 : wr.cell? ⟨w.heap.size, 5, none⟩ = some (.int .i64 ry) := HL3.out.c 5 rfl
            have ew1 : IntKind.i64.wrap (1 + 1) = 2 := by decide
            have ew2 : IntKind.i64.wrap 2 = 2 := by decide
            go_cut [] (fun wc => Below w.heap.size w wc ∧ CBox w.heap.size 79 #[.int .i64 ax, .int .i64 ay, .int .i64 hx, .int .i64 hy, .int .i64 rx, .int .i64 ry, .int .i64 sx, .int .i64 sy] wc ∧ CBox (w.heap.size + 1) 79 #[.int .i64 px, .int .i64 py, .int .i64 0, .int .i64 0, .int .i64 0, .int .i64 0, .int .i64 0, .int .i64 0] wc ∧ CBox (w.heap.size + 1 + 1) 79 #[.int .i64 0, .int .i64 0, .int .i64 0, .int .i64 0, .int .i64 0, .int .i64 0, .int .i64 sx, .int .i64 sy] wc)
            case first =>
              have HBd := Lib.hid HB3.out.drew; have HLd := Lib.hid HL3.out.drew; have HYd := Lib.hid HY3.out.drew; have HZd := Lib.hid HZ3.out.drew
              go_upto_region 8 with fail
              go_region_with (first | ((with_reducible refine (Mh.out _ HBd.out).mono ?_); rintro e v1 ⟨rfl, bc1⟩; have HBc1 := Lib.hid bc1; clear xL2 xL3 xL4 xL5; have hL_ := HLd.out.next HBc1.out; have xL2 : v1.cell? ⟨w.heap.size, 2, none⟩ = some (.int .i64 qx) := hL_.c 2 rfl; have rL2 := hL_.z 2; have xL3 : v1.cell? ⟨w.heap.size, 3, none⟩ = some (.int .i64 qy) := hL_.c 3 rfl; have rL3 := hL_.z 3; clear hL_ bc1))
              all_goals
                have HB4 := Lib.hid (HBd.out.trans (HBc1.out.mono HBd.out.size)); have HL4 := Lib.hid (HLd.out.next HBc1.out); have HY4 := Lib.hid (HYd.out.next HBc1.out); have HZ4 := Lib.hid (HZd.out.next HBc1.out)
                go_wp2_with fail
                go_meet
                refine ⟨below_at HB4.out (by omega) _ _, ?_, ?_, ?_⟩
                · exact (HL4.out.set 2 (.int .i64 hx) (show (2 : Nat) < 8 by decide)).set 3 (.int .i64 hy) (show (3 : Nat) < 8 by decide)
                · exact (HY4.out.other (by omega) _ _).other (by omega) _ _
                · exact (HZ4.out.other (by omega) _ _).other (by omega) _ _
            case rest =>
              obtain ⟨hb4, hl4, hy4, hz4⟩ := hcut
              have HB4 := Lib.hid hb4; have HL4 := Lib.hid hl4; have HY4 := Lib.hid hy4; have HZ4 := Lib.hid hz4
              clear hb4 hl4 hy4 hz4
              go_wp2_with fail
              go_roundw
              case rel => exact ⟨HB4.out, Or.inr (Or.inr (Or.inl ⟨by go_num, HL4.out, HY4.out, HZ4.out⟩))⟩
              case measure => simp [intOf]
          · have HL3 := Lib.hid hl3; have HY3 := Lib.hid hy3; have HZ3 := Lib.hid hz3
            clear hl3 hy3 hz3
            go_upto_block 3 with fail
            have xL4 : wr.cell? ⟨w.heap.size, 4, none⟩ = some (.int .i64 rx) := HL3.out.c 4 rfl
            have xL5 : wr.cell? ⟨w.heap.size, 5, none⟩ = some (.int .i64 ry) := HL3.out.c 5 rfl
            have xL6 : wr.cell? ⟨w.heap.size, 6, none⟩ = some (.int .i64 sx) := HL3.out.c 6 rfl
            have xL7 : wr.cell? ⟨w.heap.size, 7, none⟩ = some (.int .i64 sy) := HL3.out.c 7 rfl
            have ew1 : IntKind.i64.wrap (2 + 1) = 3 := by decide
            have ew2 : IntKind.i64.wrap 3 = 3 := by decide
            go_cut [] (fun wc => Below w.heap.size w wc ∧ CBox w.heap.size 79 #[.int .i64 ax, .int .i64 ay, .int .i64 hx, .int .i64 hy, .int .i64 dx, .int .i64 dy, .int .i64 sx, .int .i64 sy] wc ∧ CBox (w.heap.size + 1) 79 #[.int .i64 px, .int .i64 py, .int .i64 0, .int .i64 0, .int .i64 0, .int .i64 0, .int .i64 0, .int .i64 0] wc ∧ CBox (w.heap.size + 1 + 1) 79 #[.int .i64 0, .int .i64 0, .int .i64 0, .int .i64 0, .int .i64 0, .int .i64 0, .int .i64 sx, .int .i64 sy] wc)
            case first =>
              have HBd := Lib.hid HB3.out.drew; have HLd := Lib.hid HL3.out.drew; have HYd := Lib.hid HY3.out.drew; have HZd := Lib.hid HZ3.out.drew
              go_upto_region 8 with fail
              go_region_with (first | ((with_reducible refine (Md.out _ HBd.out).mono ?_); rintro e v1 ⟨rfl, bc1⟩; have HBc1 := Lib.hid bc1; clear xL4 xL5 xL6 xL7; have hL_ := HLd.out.next HBc1.out; have xL4 : v1.cell? ⟨w.heap.size, 4, none⟩ = some (.int .i64 rx) := hL_.c 4 rfl; have rL4 := hL_.z 4; have xL5 : v1.cell? ⟨w.heap.size, 5, none⟩ = some (.int .i64 ry) := hL_.c 5 rfl; have rL5 := hL_.z 5; clear hL_ bc1))
              all_goals
                have HB4 := Lib.hid (HBd.out.trans (HBc1.out.mono HBd.out.size)); have HL4 := Lib.hid (HLd.out.next HBc1.out); have HY4 := Lib.hid (HYd.out.next HBc1.out); have HZ4 := Lib.hid (HZd.out.next HBc1.out)
                go_wp2_with fail
                go_meet
                refine ⟨below_at HB4.out (by omega) _ _, ?_, ?_, ?_⟩
                · exact (HL4.out.set 4 (.int .i64 dx) (show (4 : Nat) < 8 by decide)).set 5 (.int .i64 dy) (show (5 : Nat) < 8 by decide)
                · exact (HY4.out.other (by omega) _ _).other (by omega) _ _
                · exact (HZ4.out.other (by omega) _ _).other (by omega) _ _
            case rest =>
              obtain ⟨hb4, hl4, hy4, hz4⟩ := hcut
              have HB4 := Lib.hid hb4; have HL4 := Lib.hid hl4; have HY4 := Lib.hid hy4; have HZ4 := Lib.hid hz4
              clear hb4 hl4 hy4 hz4
              go_wp2_with fail
              go_roundw
              case rel => exact ⟨HB4.out, Or.inr (Or.inr (Or.inr (⟨by go_num, HL4.out, HY4.out, HZ4.out⟩)))⟩
              case measure => simp [intOf]
          · have HL3 := Lib.hid hl3; have HY3 := Lib.hid hy3; have HZ3 := Lib.hid hz3
            clear hl3 hy3 hz3
            go_wp2_with fail
            go_roundw
            case rel => exact ⟨HB3.out, Or.inr (Or.inl ⟨by go_num, HL3.out, HY3.out, HZ3.out⟩)⟩
            case measure => simp [intOf]
    · have HL1 := Lib.hid hl; have HY1 := Lib.hid hy; have HZ1 := Lib.hid hz
      clear hl hy hz
      go_upto_region 4 with fail
      go_cut [] (fun wc => Below w.heap.size w wc ∧ CBox w.heap.size 79 #[.int .i64 ax, .int .i64 ay, .int .i64 hx, .int .i64 hy, .int .i64 dx, .int .i64 dy, .int .i64 sx, .int .i64 sy] wc ∧ CBox (w.heap.size + 1) 79 #[.int .i64 px, .int .i64 py, .int .i64 ax, .int .i64 ay, .int .i64 0, .int .i64 0, .int .i64 0, .int .i64 0] wc ∧ CBox (w.heap.size + 1 + 1) 79 #[.int .i64 0, .int .i64 0, .int .i64 0, .int .i64 0, .int .i64 dx, .int .i64 dy, .int .i64 sx, .int .i64 sy] wc)
      case first =>
        have xL0 : wr.cell? ⟨w.heap.size, 0, none⟩ = some (.int .i64 ax) := HL1.out.c 0 rfl
        have xL1 : wr.cell? ⟨w.heap.size, 1, none⟩ = some (.int .i64 ay) := HL1.out.c 1 rfl
        have xL2 : wr.cell? ⟨w.heap.size, 2, none⟩ = some (.int .i64 hx) := HL1.out.c 2 rfl
        have xL3 : wr.cell? ⟨w.heap.size, 3, none⟩ = some (.int .i64 hy) := HL1.out.c 3 rfl
        have xL4 : wr.cell? ⟨w.heap.size, 4, none⟩ = some (.int .i64 dx) := HL1.out.c 4 rfl
        have xL5 : wr.cell? ⟨w.heap.size, 5, none⟩ = some (.int .i64 dy) := HL1.out.c 5 rfl
        have xL6 : wr.cell? ⟨w.heap.size, 6, none⟩ = some (.int .i64 sx) := HL1.out.c 6 rfl
        have xL7 : wr.cell? ⟨w.heap.size, 7, none⟩ = some (.int .i64 sy) := HL1.out.c 7 rfl
        have uY2 : wr.cell? ⟨w.heap.size + 1, 2, none⟩ = some (.int .i64 0) := HY1.out.c 2 rfl; have rY2 := HY1.out.z 2
        have uY3 : wr.cell? ⟨w.heap.size + 1, 3, none⟩ = some (.int .i64 0) := HY1.out.c 3 rfl; have rY3 := HY1.out.z 3
        have uZ4 : wr.cell? ⟨w.heap.size + 1 + 1, 4, none⟩ = some (.int .i64 0) := HZ1.out.c 4 rfl; have rZ4 := HZ1.out.z 4
        have uZ5 : wr.cell? ⟨w.heap.size + 1 + 1, 5, none⟩ = some (.int .i64 0) := HZ1.out.c 5 rfl; have rZ5 := HZ1.out.z 5
        go_region_with fail
        all_goals
          go_wp2_with fail
          go_meet
          refine ⟨(below_at (below_at HB1.out (by omega) _ _) (by omega) _ _).drew, ((((HL1.out.other (by omega) _ _).other (by omega) _ _).other (by omega) _ _).other (by omega) _ _).drew, ?_, ?_⟩
          · exact ((((HY1.out.set 2 (.int .i64 ax) (show (2 : Nat) < 8 by decide)).set 3 (.int .i64 ay) (show (3 : Nat) < 8 by decide)).other (by omega) _ _).other (by omega) _ _).drew
          · exact ((((HZ1.out.other (by omega) _ _).other (by omega) _ _).set 4 (.int .i64 dx) (show (4 : Nat) < 8 by decide)).set 5 (.int .i64 dy) (show (5 : Nat) < 8 by decide)).drew
      case rest =>
        obtain ⟨hb2, hl2, hy2, hz2⟩ := hcut
        have HB2 := Lib.hid hb2; have HL2 := Lib.hid hl2; have HY2 := Lib.hid hy2; have HZ2 := Lib.hid hz2
        clear hb2 hl2 hy2 hz2 HB1 HL1 HY1 HZ1
        go_wp2_with fail
        go_loopw [23] (fun iv wi => Below w.heap.size w wi ∧ ((iv = .int .i64 0 ∧ CBox w.heap.size 79 #[.int .i64 ax, .int .i64 ay, .int .i64 hx, .int .i64 hy, .int .i64 dx, .int .i64 dy, .int .i64 sx, .int .i64 sy] wi ∧ CBox (w.heap.size + 1) 79 #[.int .i64 px, .int .i64 py, .int .i64 ax, .int .i64 ay, .int .i64 0, .int .i64 0, .int .i64 0, .int .i64 0] wi ∧ CBox (w.heap.size + 1 + 1) 79 #[.int .i64 0, .int .i64 0, .int .i64 0, .int .i64 0, .int .i64 dx, .int .i64 dy, .int .i64 sx, .int .i64 sy] wi) ∨ (iv = .int .i64 1 ∧ CBox w.heap.size 79 #[.int .i64 ex, .int .i64 ey, .int .i64 hx, .int .i64 hy, .int .i64 dx, .int .i64 dy, .int .i64 sx, .int .i64 sy] wi ∧ CBox (w.heap.size + 1) 79 #[.int .i64 px, .int .i64 py, .int .i64 ax, .int .i64 ay, .int .i64 0, .int .i64 0, .int .i64 0, .int .i64 0] wi ∧ CBox (w.heap.size + 1 + 1) 79 #[.int .i64 0, .int .i64 0, .int .i64 0, .int .i64 0, .int .i64 dx, .int .i64 dy, .int .i64 sx, .int .i64 sy] wi) ∨ (iv = .int .i64 2 ∧ CBox w.heap.size 79 #[.int .i64 ex, .int .i64 ey, .int .i64 fx, .int .i64 fy, .int .i64 dx, .int .i64 dy, .int .i64 sx, .int .i64 sy] wi ∧ CBox (w.heap.size + 1) 79 #[.int .i64 px, .int .i64 py, .int .i64 ax, .int .i64 ay, .int .i64 0, .int .i64 0, .int .i64 0, .int .i64 0] wi ∧ CBox (w.heap.size + 1 + 1) 79 #[.int .i64 0, .int .i64 0, .int .i64 0, .int .i64 0, .int .i64 dx, .int .i64 dy, .int .i64 sx, .int .i64 sy] wi))) (fun iv _ => 2 - (intOf iv).toNat)
        case atStart => exact ⟨HB2.out, Or.inl ⟨rfl, HL2.out, HY2.out, HZ2.out⟩⟩
        case round =>
          obtain ⟨hb3, hrel⟩ := hrel
          have HB3 := Lib.hid hb3
          clear hb3 HB2 HL2 HY2 HZ2
          rcases hrel with ⟨rfl, hl3, hy3, hz3⟩ | ⟨rfl, hl3, hy3, hz3⟩ | ⟨rfl, hl3, hy3, hz3⟩
          · have HL3 := Lib.hid hl3; have HY3 := Lib.hid hy3; have HZ3 := Lib.hid hz3
            clear hl3 hy3 hz3
            go_upto_block 3 with fail
            have xL0 : wr.cell? ⟨w.heap.size, 0, none⟩ = some (.int .i64 ax) := HL3.out.c 0 rfl
            have xL1 : wr.cell? ⟨w.heap.size, 1, none⟩ = some (.int .i64 ay) := HL3.out.c 1 rfl
            have xL2 : wr.cell? ⟨w.heap.size, 2, none⟩ = some (.int .i64 hx) := HL3.out.c 2 rfl
            have xL3 : wr.cell? ⟨w.heap.size, 3, none⟩ = some (.int .i64 hy) := HL3.out.c 3 rfl
            have ew1 : IntKind.i64.wrap (0 + 1) = 1 := by decide
            have ew2 : IntKind.i64.wrap 1 = 1 := by decide
            go_cut [] (fun wc => Below w.heap.size w wc ∧ CBox w.heap.size 79 #[.int .i64 ex, .int .i64 ey, .int .i64 hx, .int .i64 hy, .int .i64 dx, .int .i64 dy, .int .i64 sx, .int .i64 sy] wc ∧ CBox (w.heap.size + 1) 79 #[.int .i64 px, .int .i64 py, .int .i64 ax, .int .i64 ay, .int .i64 0, .int .i64 0, .int .i64 0, .int .i64 0] wc ∧ CBox (w.heap.size + 1 + 1) 79 #[.int .i64 0, .int .i64 0, .int .i64 0, .int .i64 0, .int .i64 dx, .int .i64 dy, .int .i64 sx, .int .i64 sy] wc)
            case first =>
              have HBd := Lib.hid HB3.out.drew; have HLd := Lib.hid HL3.out.drew; have HYd := Lib.hid HY3.out.drew; have HZd := Lib.hid HZ3.out.drew
              go_upto_region 8 with fail
              go_region_with (first | ((with_reducible refine (Me.out _ HBd.out).mono ?_); rintro e v1 ⟨rfl, bc1⟩; have HBc1 := Lib.hid bc1; clear xL0 xL1 xL2 xL3; have hL_ := HLd.out.next HBc1.out; have xL0 : v1.cell? ⟨w.heap.size, 0, none⟩ = some (.int .i64 ax) := hL_.c 0 rfl; have rL0 := hL_.z 0; have xL1 : v1.cell? ⟨w.heap.size, 1, none⟩ = some (.int .i64 ay) := hL_.c 1 rfl; have rL1 := hL_.z 1; clear hL_ bc1))
              all_goals
                have HB4 := Lib.hid (HBd.out.trans (HBc1.out.mono HBd.out.size)); have HL4 := Lib.hid (HLd.out.next HBc1.out); have HY4 := Lib.hid (HYd.out.next HBc1.out); have HZ4 := Lib.hid (HZd.out.next HBc1.out)
                go_wp2_with fail
                go_meet
                refine ⟨below_at HB4.out (by omega) _ _, ?_, ?_, ?_⟩
                · exact (HL4.out.set 0 (.int .i64 ex) (show (0 : Nat) < 8 by decide)).set 1 (.int .i64 ey) (show (1 : Nat) < 8 by decide)
                · exact (HY4.out.other (by omega) _ _).other (by omega) _ _
                · exact (HZ4.out.other (by omega) _ _).other (by omega) _ _
            case rest =>
              obtain ⟨hb4, hl4, hy4, hz4⟩ := hcut
              have HB4 := Lib.hid hb4; have HL4 := Lib.hid hl4; have HY4 := Lib.hid hy4; have HZ4 := Lib.hid hz4
              clear hb4 hl4 hy4 hz4
              go_wp2_with fail
              go_roundw
              case rel => exact ⟨HB4.out, Or.inr (Or.inl ⟨by go_num, HL4.out, HY4.out, HZ4.out⟩)⟩
              case measure => simp [intOf]
          · have HL3 := Lib.hid hl3; have HY3 := Lib.hid hy3; have HZ3 := Lib.hid hz3
            clear hl3 hy3 hz3
            go_upto_block 3 with fail
            have xL2 : wr.cell? ⟨w.heap.size, 2, none⟩ = some (.int .i64 hx) := HL3.out.c 2 rfl
            have xL3 : wr.cell? ⟨w.heap.size, 3, none⟩ = some (.int .i64 hy) := HL3.out.c 3 rfl
            have xL4 : wr.cell? ⟨w.heap.size, 4, none⟩ = some (.int .i64 dx) := HL3.out.c 4 rfl
            have xL5 : wr.cell? ⟨w.heap.size, 5, none⟩ = some (.int .i64 dy) := HL3.out.c 5 rfl
            have ew1 : IntKind.i64.wrap (1 + 1) = 2 := by decide
            have ew2 : IntKind.i64.wrap 2 = 2 := by decide
            go_cut [] (fun wc => Below w.heap.size w wc ∧ CBox w.heap.size 79 #[.int .i64 ex, .int .i64 ey, .int .i64 fx, .int .i64 fy, .int .i64 dx, .int .i64 dy, .int .i64 sx, .int .i64 sy] wc ∧ CBox (w.heap.size + 1) 79 #[.int .i64 px, .int .i64 py, .int .i64 ax, .int .i64 ay, .int .i64 0, .int .i64 0, .int .i64 0, .int .i64 0] wc ∧ CBox (w.heap.size + 1 + 1) 79 #[.int .i64 0, .int .i64 0, .int .i64 0, .int .i64 0, .int .i64 dx, .int .i64 dy, .int .i64 sx, .int .i64 sy] wc)
            case first =>
              have HBd := Lib.hid HB3.out.drew; have HLd := Lib.hid HL3.out.drew; have HYd := Lib.hid HY3.out.drew; have HZd := Lib.hid HZ3.out.drew
              go_upto_region 8 with fail
              go_region_with (first | ((with_reducible refine (Mf.out _ HBd.out).mono ?_); rintro e v1 ⟨rfl, bc1⟩; have HBc1 := Lib.hid bc1; clear xL2 xL3 xL4 xL5; have hL_ := HLd.out.next HBc1.out; have xL2 : v1.cell? ⟨w.heap.size, 2, none⟩ = some (.int .i64 hx) := hL_.c 2 rfl; have rL2 := hL_.z 2; have xL3 : v1.cell? ⟨w.heap.size, 3, none⟩ = some (.int .i64 hy) := hL_.c 3 rfl; have rL3 := hL_.z 3; clear hL_ bc1))
              all_goals
                have HB4 := Lib.hid (HBd.out.trans (HBc1.out.mono HBd.out.size)); have HL4 := Lib.hid (HLd.out.next HBc1.out); have HY4 := Lib.hid (HYd.out.next HBc1.out); have HZ4 := Lib.hid (HZd.out.next HBc1.out)
                go_wp2_with fail
                go_meet
                refine ⟨below_at HB4.out (by omega) _ _, ?_, ?_, ?_⟩
                · exact (HL4.out.set 2 (.int .i64 fx) (show (2 : Nat) < 8 by decide)).set 3 (.int .i64 fy) (show (3 : Nat) < 8 by decide)
                · exact (HY4.out.other (by omega) _ _).other (by omega) _ _
                · exact (HZ4.out.other (by omega) _ _).other (by omega) _ _
            case rest =>
              obtain ⟨hb4, hl4, hy4, hz4⟩ := hcut
              have HB4 := Lib.hid hb4; have HL4 := Lib.hid hl4; have HY4 := Lib.hid hy4; have HZ4 := Lib.hid hz4
              clear hb4 hl4 hy4 hz4
              go_wp2_with fail
              go_roundw
              case rel => exact ⟨HB4.out, Or.inr (Or.inr (⟨by go_num, HL4.out, HY4.out, HZ4.out⟩))⟩
              case measure => simp [intOf]
          · have HL3 := Lib.hid hl3; have HY3 := Lib.hid hy3; have HZ3 := Lib.hid hz3
            clear hl3 hy3 hz3
            go_wp2_with fail
            go_roundw
            case rel => exact ⟨HB3.out, Or.inr (Or.inr (Or.inl ⟨by go_num, HL3.out, HY3.out, HZ3.out⟩))⟩
            case measure => simp [intOf]
    · have HL1 := Lib.hid hl; have HY1 := Lib.hid hy; have HZ1 := Lib.hid hz
      clear hl hy hz
      go_upto_region 4 with fail
      go_cut [] (fun wc => Below w.heap.size w wc ∧ CBox w.heap.size 79 #[.int .i64 ex, .int .i64 ey, .int .i64 fx, .int .i64 fy, .int .i64 dx, .int .i64 dy, .int .i64 sx, .int .i64 sy] wc ∧ CBox (w.heap.size + 1) 79 #[.int .i64 px, .int .i64 py, .int .i64 ax, .int .i64 ay, .int .i64 ex, .int .i64 ey, .int .i64 0, .int .i64 0] wc ∧ CBox (w.heap.size + 1 + 1) 79 #[.int .i64 0, .int .i64 0, .int .i64 fx, .int .i64 fy, .int .i64 dx, .int .i64 dy, .int .i64 sx, .int .i64 sy] wc)
      case first =>
        have xL0 : wr.cell? ⟨w.heap.size, 0, none⟩ = some (.int .i64 ex) := HL1.out.c 0 rfl
        have xL1 : wr.cell? ⟨w.heap.size, 1, none⟩ = some (.int .i64 ey) := HL1.out.c 1 rfl
        have xL2 : wr.cell? ⟨w.heap.size, 2, none⟩ = some (.int .i64 fx) := HL1.out.c 2 rfl
        have xL3 : wr.cell? ⟨w.heap.size, 3, none⟩ = some (.int .i64 fy) := HL1.out.c 3 rfl
        have xL4 : wr.cell? ⟨w.heap.size, 4, none⟩ = some (.int .i64 dx) := HL1.out.c 4 rfl
        have xL5 : wr.cell? ⟨w.heap.size, 5, none⟩ = some (.int .i64 dy) := HL1.out.c 5 rfl
        have xL6 : wr.cell? ⟨w.heap.size, 6, none⟩ = some (.int .i64 sx) := HL1.out.c 6 rfl
        have xL7 : wr.cell? ⟨w.heap.size, 7, none⟩ = some (.int .i64 sy) := HL1.out.c 7 rfl
        have uY4 : wr.cell? ⟨w.heap.size + 1, 4, none⟩ = some (.int .i64 0) := HY1.out.c 4 rfl; have rY4 := HY1.out.z 4
        have uY5 : wr.cell? ⟨w.heap.size + 1, 5, none⟩ = some (.int .i64 0) := HY1.out.c 5 rfl; have rY5 := HY1.out.z 5
        have uZ2 : wr.cell? ⟨w.heap.size + 1 + 1, 2, none⟩ = some (.int .i64 0) := HZ1.out.c 2 rfl; have rZ2 := HZ1.out.z 2
        have uZ3 : wr.cell? ⟨w.heap.size + 1 + 1, 3, none⟩ = some (.int .i64 0) := HZ1.out.c 3 rfl; have rZ3 := HZ1.out.z 3
        go_region_with fail
        all_goals
          go_wp2_with fail
          go_meet
          refine ⟨(below_at (below_at HB1.out (by omega) _ _) (by omega) _ _).drew, ((((HL1.out.other (by omega) _ _).other (by omega) _ _).other (by omega) _ _).other (by omega) _ _).drew, ?_, ?_⟩
          · exact ((((HY1.out.set 4 (.int .i64 ex) (show (4 : Nat) < 8 by decide)).set 5 (.int .i64 ey) (show (5 : Nat) < 8 by decide)).other (by omega) _ _).other (by omega) _ _).drew
          · exact ((((HZ1.out.other (by omega) _ _).other (by omega) _ _).set 2 (.int .i64 fx) (show (2 : Nat) < 8 by decide)).set 3 (.int .i64 fy) (show (3 : Nat) < 8 by decide)).drew
      case rest =>
        obtain ⟨hb2, hl2, hy2, hz2⟩ := hcut
        have HB2 := Lib.hid hb2; have HL2 := Lib.hid hl2; have HY2 := Lib.hid hy2; have HZ2 := Lib.hid hz2
        clear hb2 hl2 hy2 hz2 HB1 HL1 HY1 HZ1
        go_wp2_with fail
        go_loopw [23] (fun iv wi => Below w.heap.size w wi ∧ ((iv = .int .i64 0 ∧ CBox w.heap.size 79 #[.int .i64 ex, .int .i64 ey, .int .i64 fx, .int .i64 fy, .int .i64 dx, .int .i64 dy, .int .i64 sx, .int .i64 sy] wi ∧ CBox (w.heap.size + 1) 79 #[.int .i64 px, .int .i64 py, .int .i64 ax, .int .i64 ay, .int .i64 ex, .int .i64 ey, .int .i64 0, .int .i64 0] wi ∧ CBox (w.heap.size + 1 + 1) 79 #[.int .i64 0, .int .i64 0, .int .i64 fx, .int .i64 fy, .int .i64 dx, .int .i64 dy, .int .i64 sx, .int .i64 sy] wi) ∨ (iv = .int .i64 1 ∧ CBox w.heap.size 79 #[.int .i64 gx, .int .i64 gy, .int .i64 fx, .int .i64 fy, .int .i64 dx, .int .i64 dy, .int .i64 sx, .int .i64 sy] wi ∧ CBox (w.heap.size + 1) 79 #[.int .i64 px, .int .i64 py, .int .i64 ax, .int .i64 ay, .int .i64 ex, .int .i64 ey, .int .i64 0, .int .i64 0] wi ∧ CBox (w.heap.size + 1 + 1) 79 #[.int .i64 0, .int .i64 0, .int .i64 fx, .int .i64 fy, .int .i64 dx, .int .i64 dy, .int .i64 sx, .int .i64 sy] wi))) (fun iv _ => 1 - (intOf iv).toNat)
        case atStart => exact ⟨HB2.out, Or.inl ⟨rfl, HL2.out, HY2.out, HZ2.out⟩⟩
        case round =>
          obtain ⟨hb3, hrel⟩ := hrel
          have HB3 := Lib.hid hb3
          clear hb3 HB2 HL2 HY2 HZ2
          rcases hrel with ⟨rfl, hl3, hy3, hz3⟩ | ⟨rfl, hl3, hy3, hz3⟩
          · have HL3 := Lib.hid hl3; have HY3 := Lib.hid hy3; have HZ3 := Lib.hid hz3
            clear hl3 hy3 hz3
            go_upto_block 3 with fail
            have xL0 : wr.cell? ⟨w.heap.size, 0, none⟩ = some (.int .i64 ex) := HL3.out.c 0 rfl
            have xL1 : wr.cell? ⟨w.heap.size, 1, none⟩ = some (.int .i64 ey) := HL3.out.c 1 rfl
            have xL2 : wr.cell? ⟨w.heap.size, 2, none⟩ = some (.int .i64 fx) := HL3.out.c 2 rfl
            have xL3 : wr.cell? ⟨w.heap.size, 3, none⟩ = some (.int .i64 fy) := HL3.out.c 3 rfl
            have ew1 : IntKind.i64.wrap (0 + 1) = 1 := by decide
            have ew2 : IntKind.i64.wrap 1 = 1 := by decide
            go_cut [] (fun wc => Below w.heap.size w wc ∧ CBox w.heap.size 79 #[.int .i64 gx, .int .i64 gy, .int .i64 fx, .int .i64 fy, .int .i64 dx, .int .i64 dy, .int .i64 sx, .int .i64 sy] wc ∧ CBox (w.heap.size + 1) 79 #[.int .i64 px, .int .i64 py, .int .i64 ax, .int .i64 ay, .int .i64 ex, .int .i64 ey, .int .i64 0, .int .i64 0] wc ∧ CBox (w.heap.size + 1 + 1) 79 #[.int .i64 0, .int .i64 0, .int .i64 fx, .int .i64 fy, .int .i64 dx, .int .i64 dy, .int .i64 sx, .int .i64 sy] wc)
            case first =>
              have HBd := Lib.hid HB3.out.drew; have HLd := Lib.hid HL3.out.drew; have HYd := Lib.hid HY3.out.drew; have HZd := Lib.hid HZ3.out.drew
              go_upto_region 8 with fail
              go_region_with (first | ((with_reducible refine (Mg.out _ HBd.out).mono ?_); rintro e v1 ⟨rfl, bc1⟩; have HBc1 := Lib.hid bc1; clear xL0 xL1 xL2 xL3; have hL_ := HLd.out.next HBc1.out; have xL0 : v1.cell? ⟨w.heap.size, 0, none⟩ = some (.int .i64 ex) := hL_.c 0 rfl; have rL0 := hL_.z 0; have xL1 : v1.cell? ⟨w.heap.size, 1, none⟩ = some (.int .i64 ey) := hL_.c 1 rfl; have rL1 := hL_.z 1; clear hL_ bc1))
              all_goals
                have HB4 := Lib.hid (HBd.out.trans (HBc1.out.mono HBd.out.size)); have HL4 := Lib.hid (HLd.out.next HBc1.out); have HY4 := Lib.hid (HYd.out.next HBc1.out); have HZ4 := Lib.hid (HZd.out.next HBc1.out)
                go_wp2_with fail
                go_meet
                refine ⟨below_at HB4.out (by omega) _ _, ?_, ?_, ?_⟩
                · exact (HL4.out.set 0 (.int .i64 gx) (show (0 : Nat) < 8 by decide)).set 1 (.int .i64 gy) (show (1 : Nat) < 8 by decide)
                · exact (HY4.out.other (by omega) _ _).other (by omega) _ _
                · exact (HZ4.out.other (by omega) _ _).other (by omega) _ _
            case rest =>
              obtain ⟨hb4, hl4, hy4, hz4⟩ := hcut
              have HB4 := Lib.hid hb4; have HL4 := Lib.hid hl4; have HY4 := Lib.hid hy4; have HZ4 := Lib.hid hz4
              clear hb4 hl4 hy4 hz4
              go_wp2_with fail
              go_roundw
              case rel => exact ⟨HB4.out, Or.inr (⟨by go_num, HL4.out, HY4.out, HZ4.out⟩)⟩
              case measure => simp [intOf]
          · have HL3 := Lib.hid hl3; have HY3 := Lib.hid hy3; have HZ3 := Lib.hid hz3
            clear hl3 hy3 hz3
            go_wp2_with fail
            go_roundw
            case rel => exact ⟨HB3.out, Or.inr (Or.inr (Or.inr (Or.inl ⟨by go_num, HL3.out, HY3.out, HZ3.out⟩)))⟩
            case measure => simp [intOf]
    · have HL1 := Lib.hid hl; have HY1 := Lib.hid hy; have HZ1 := Lib.hid hz
      clear hl hy hz
      go_upto_region 4 with fail
      go_cut [] (fun wc => Below w.heap.size w wc ∧ CBox w.heap.size 79 #[.int .i64 gx, .int .i64 gy, .int .i64 fx, .int .i64 fy, .int .i64 dx, .int .i64 dy, .int .i64 sx, .int .i64 sy] wc ∧ CBox (w.heap.size + 1) 79 #[.int .i64 px, .int .i64 py, .int .i64 ax, .int .i64 ay, .int .i64 ex, .int .i64 ey, .int .i64 gx, .int .i64 gy] wc ∧ CBox (w.heap.size + 1 + 1) 79 #[.int .i64 gx, .int .i64 gy, .int .i64 fx, .int .i64 fy, .int .i64 dx, .int .i64 dy, .int .i64 sx, .int .i64 sy] wc)
      case first =>
        have xL0 : wr.cell? ⟨w.heap.size, 0, none⟩ = some (.int .i64 gx) := HL1.out.c 0 rfl
        have xL1 : wr.cell? ⟨w.heap.size, 1, none⟩ = some (.int .i64 gy) := HL1.out.c 1 rfl
        have xL2 : wr.cell? ⟨w.heap.size, 2, none⟩ = some (.int .i64 fx) := HL1.out.c 2 rfl
        have xL3 : wr.cell? ⟨w.heap.size, 3, none⟩ = some (.int .i64 fy) := HL1.out.c 3 rfl
        have xL4 : wr.cell? ⟨w.heap.size, 4, none⟩ = some (.int .i64 dx) := HL1.out.c 4 rfl
        have xL5 : wr.cell? ⟨w.heap.size, 5, none⟩ = some (.int .i64 dy) := HL1.out.c 5 rfl
        have xL6 : wr.cell? ⟨w.heap.size, 6, none⟩ = some (.int .i64 sx) := HL1.out.c 6 rfl
        have xL7 : wr.cell? ⟨w.heap.size, 7, none⟩ = some (.int .i64 sy) := HL1.out.c 7 rfl
        have uY6 : wr.cell? ⟨w.heap.size + 1, 6, none⟩ = some (.int .i64 0) := HY1.out.c 6 rfl; have rY6 := HY1.out.z 6
        have uY7 : wr.cell? ⟨w.heap.size + 1, 7, none⟩ = some (.int .i64 0) := HY1.out.c 7 rfl; have rY7 := HY1.out.z 7
        have uZ0 : wr.cell? ⟨w.heap.size + 1 + 1, 0, none⟩ = some (.int .i64 0) := HZ1.out.c 0 rfl; have rZ0 := HZ1.out.z 0
        have uZ1 : wr.cell? ⟨w.heap.size + 1 + 1, 1, none⟩ = some (.int .i64 0) := HZ1.out.c 1 rfl; have rZ1 := HZ1.out.z 1
        go_region_with fail
        all_goals
          go_wp2_with fail
          go_meet
          refine ⟨(below_at (below_at HB1.out (by omega) _ _) (by omega) _ _).drew, ((((HL1.out.other (by omega) _ _).other (by omega) _ _).other (by omega) _ _).other (by omega) _ _).drew, ?_, ?_⟩
          · exact ((((HY1.out.set 6 (.int .i64 gx) (show (6 : Nat) < 8 by decide)).set 7 (.int .i64 gy) (show (7 : Nat) < 8 by decide)).other (by omega) _ _).other (by omega) _ _).drew
          · exact ((((HZ1.out.other (by omega) _ _).other (by omega) _ _).set 0 (.int .i64 gx) (show (0 : Nat) < 8 by decide)).set 1 (.int .i64 gy) (show (1 : Nat) < 8 by decide)).drew
      case rest =>
        obtain ⟨hb2, hl2, hy2, hz2⟩ := hcut
        have HB2 := Lib.hid hb2; have HL2 := Lib.hid hl2; have HY2 := Lib.hid hy2; have HZ2 := Lib.hid hz2
        clear hb2 hl2 hy2 hz2 HB1 HL1 HY1 HZ1
        go_wp2_with fail
        go_loopw [23] (fun iv wi => Below w.heap.size w wi ∧ ((iv = .int .i64 0 ∧ CBox w.heap.size 79 #[.int .i64 gx, .int .i64 gy, .int .i64 fx, .int .i64 fy, .int .i64 dx, .int .i64 dy, .int .i64 sx, .int .i64 sy] wi ∧ CBox (w.heap.size + 1) 79 #[.int .i64 px, .int .i64 py, .int .i64 ax, .int .i64 ay, .int .i64 ex, .int .i64 ey, .int .i64 gx, .int .i64 gy] wi ∧ CBox (w.heap.size + 1 + 1) 79 #[.int .i64 gx, .int .i64 gy, .int .i64 fx, .int .i64 fy, .int .i64 dx, .int .i64 dy, .int .i64 sx, .int .i64 sy] wi))) (fun iv _ => 0 - (intOf iv).toNat)
        case atStart => exact ⟨HB2.out, ⟨rfl, HL2.out, HY2.out, HZ2.out⟩⟩
        case round =>
          obtain ⟨hb3, hrel⟩ := hrel
          have HB3 := Lib.hid hb3
          clear hb3 HB2 HL2 HY2 HZ2
          obtain ⟨rfl, hl3, hy3, hz3⟩ := hrel
          · have HL3 := Lib.hid hl3; have HY3 := Lib.hid hy3; have HZ3 := Lib.hid hz3
            clear hl3 hy3 hz3
            go_wp2_with fail
            go_roundw
            case rel => exact ⟨HB3.out, Or.inr (Or.inr (Or.inr (Or.inr (⟨by go_num, HL3.out, HY3.out, HZ3.out⟩))))⟩
            case measure => simp [intOf]
    · have HL1 := Lib.hid hl; have HY1 := Lib.hid hy; have HZ1 := Lib.hid hz
      clear hl hy hz
      have xY0 : wr.cell? ⟨w.heap.size + 1, 0, none⟩ = some (.int .i64 px) := HY1.out.c 0 rfl
      have xY1 : wr.cell? ⟨w.heap.size + 1, 1, none⟩ = some (.int .i64 py) := HY1.out.c 1 rfl
      have xY2 : wr.cell? ⟨w.heap.size + 1, 2, none⟩ = some (.int .i64 ax) := HY1.out.c 2 rfl
      have xY3 : wr.cell? ⟨w.heap.size + 1, 3, none⟩ = some (.int .i64 ay) := HY1.out.c 3 rfl
      have xY4 : wr.cell? ⟨w.heap.size + 1, 4, none⟩ = some (.int .i64 ex) := HY1.out.c 4 rfl
      have xY5 : wr.cell? ⟨w.heap.size + 1, 5, none⟩ = some (.int .i64 ey) := HY1.out.c 5 rfl
      have xY6 : wr.cell? ⟨w.heap.size + 1, 6, none⟩ = some (.int .i64 gx) := HY1.out.c 6 rfl
      have xY7 : wr.cell? ⟨w.heap.size + 1, 7, none⟩ = some (.int .i64 gy) := HY1.out.c 7 rfl
      have xZ0 : wr.cell? ⟨w.heap.size + 1 + 1, 0, none⟩ = some (.int .i64 gx) := HZ1.out.c 0 rfl
      have xZ1 : wr.cell? ⟨w.heap.size + 1 + 1, 1, none⟩ = some (.int .i64 gy) := HZ1.out.c 1 rfl
      have xZ2 : wr.cell? ⟨w.heap.size + 1 + 1, 2, none⟩ = some (.int .i64 fx) := HZ1.out.c 2 rfl
      have xZ3 : wr.cell? ⟨w.heap.size + 1 + 1, 3, none⟩ = some (.int .i64 fy) := HZ1.out.c 3 rfl
      have xZ4 : wr.cell? ⟨w.heap.size + 1 + 1, 4, none⟩ = some (.int .i64 dx) := HZ1.out.c 4 rfl
      have xZ5 : wr.cell? ⟨w.heap.size + 1 + 1, 5, none⟩ = some (.int .i64 dy) := HZ1.out.c 5 rfl
      have xZ6 : wr.cell? ⟨w.heap.size + 1 + 1, 6, none⟩ = some (.int .i64 sx) := HZ1.out.c 6 rfl
      have xZ7 : wr.cell? ⟨w.heap.size + 1 + 1, 7, none⟩ = some (.int .i64 sy) := HZ1.out.c 7 rfl
      have rY0 := HY1.out.z 0; have rZ0 := HZ1.out.z 0
      have rY1 := HY1.out.z 1; have rZ1 := HZ1.out.z 1
      have rY2 := HY1.out.z 2; have rZ2 := HZ1.out.z 2
      have rY3 := HY1.out.z 3; have rZ3 := HZ1.out.z 3
      have rY4 := HY1.out.z 4; have rZ4 := HZ1.out.z 4
      have rY5 := HY1.out.z 5; have rZ5 := HZ1.out.z 5
      have rY6 := HY1.out.z 6; have rZ6 := HZ1.out.z 6
      have rY7 := HY1.out.z 7; have rZ7 := HZ1.out.z 7
      go_upto_region 10 with fail
      go_cut [] (fun wc => Below w.heap.size w wc ∧ CBox (w.heap.size + 1) 79 #[.int .i64 px, .int .i64 py, .int .i64 ax, .int .i64 ay, .int .i64 ex, .int .i64 ey, .int .i64 gx, .int .i64 gy] wc ∧ CBox (w.heap.size + 1 + 1) 79 #[.int .i64 gx, .int .i64 gy, .int .i64 fx, .int .i64 fy, .int .i64 dx, .int .i64 dy, .int .i64 sx, .int .i64 sy] wc)
      case first =>
        go_region_with fail
        all_goals
          go_wp2_with fail
          go_meet
          exact ⟨(below_8 (below_8 HB1.out (by omega) _ _ _ _ _ _ _ _) (by omega) _ _ _ _ _ _ _ _).drew, ((HY1.out.set8 _ _ _ _ _ _ _ _).other8 (by omega) _ _ _ _ _ _ _ _).drew, ((HZ1.out.other8 (by omega) _ _ _ _ _ _ _ _).set8 _ _ _ _ _ _ _ _).drew⟩
      case rest =>
        obtain ⟨hb2, hy2, hz2⟩ := hcut
        go_wp2_with fail
        exact arr2_ret Try.results45 hy2 hz2 hb2 rfl rfl
end Go.Proofs.Ytgkjbmejfcijkaa
