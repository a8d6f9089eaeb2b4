/- The statement WireCuts, walked. (Written by mkcuts.py.) -/
import Derived.Test.YtfjmegcedgondaaDoorWireFrameBackW
namespace Go.Proofs.YtfjmegcedgondaaDoor
open Go.RowKit
set_option maxRecDepth 20000
set_option linter.unusedSimpArgs false

/-- Two rows of bytes that are frames', all of them, and go together as far as both go, are as long. -/
theorem frames_long (a b : List Int) (ha : frameAll a) (hb : frameAll b) (h : ∀ j, j < a.length → j < b.length → at1 a j = at1 b j) : a.length = b.length := by
  obtain ⟨⟨_, _, ⟨p1, _, p3⟩, ⟨q1, _, q3⟩, _⟩, la⟩ := ha
  obtain ⟨⟨_, _, ⟨r1, _, r3⟩, ⟨s1, _, s3⟩, _⟩, lb⟩ := hb
  have hN : fN a = fN b := by unfold fN; rw [h 44 (by omega) (by omega)]
  have hQ : fQ a = fQ b := by unfold fQ; rw [hN]
  have hM : fM a = fM b := by
    unfold fM told2
    rw [hQ, h (fQ b) (by rw [← hQ]; omega) (by omega), h (fQ b + 1) (by rw [← hQ]; omega) (by omega)]
  rw [la, lb]
  unfold fO
  rw [hQ, hM]
theorem cut_bad (z : List Int) (h : frameAll z) (k : Nat) (hk : k < z.length) : ¬ frameAll (z.take k) := fun h2 => by
  have := frames_long (z.take k) z h2 h (fun j h1 _ => by
    unfold at1
    rw [List.length_take] at h1
    rw [List.getElem?_take_of_lt (by omega)])
  rw [List.length_take] at this
  omega
theorem more_bad (z : List Int) (h : frameAll z) : ¬ frameAll (z ++ [0]) := fun h2 => by
  have := frames_long (z ++ [0]) z h2 h (fun j _ h1 => by
    unfold at1
    rw [List.getElem?_append_left h1])
  rw [List.length_append] at this
  simp at this

set_option maxHeartbeats 8000000 in
theorem cuts_walk (F : Fr) (xw : Option Addr) (lw cw : Nat) (ws : List Wp) (xb : Option Addr) (lb cb : Nat) (body : List Int) (u : Nat) (w : World) (hT : BTab w) (hF : FrIn w F xw lw cw ws xb lb cb body) (hu : u ≤ 65535) :
    Calls Tryd.prog 5 #[.agg F.cells.toArray, .int .u16 (u : Int)] w fun e w' => e = .returned (.bool true) ∧ Below w.heap.size w w' := by
  obtain ⟨hp, hm, hfw, hfb, hws, hbo, inF, inW, inB⟩ := hF
  obtain ⟨q0, _⟩ := fr_parts F hp hm
  obtain ⟨q2, _⟩ := fr_parts (F.few xw lw cw xb lb cb) hp hm
  have h1 := fr_one (F.few xw lw cw xb lb cb) xw xb _ cw _ cb rfl rfl
  have hfe := fun wx (hb : Below w.heap.size w wx) => few6_any F xw lw cw ws xb lb cb body wx hp hm hfw (hws.below hb) hfb (hbo.below hb)
  have hws2 := hws.few 80
  have hbo2 := hbo.few 5000
  have hfr := fun wx (hb : Below w.heap.size w wx) => Frame_both (F.few xw lw cw xb lb cb) xw (min lw 80) cw (ws.take 80) xb (min lb 5000) cb (body.take 5000) wx hp hm rfl (hws2.below hb) rfl (hbo2.below hb)
  have hwl := hws2.len_eq
  have hbl := hbo2.len_eq
  have hlv := fun wx (hb : Below w.heap.size w wx) => live6_any wx (hT.below hb)
  obtain ⟨Z, hzv, hz1, hZ⟩ := zeroFrL
  have HZL : Veil (Z.length = 70) := ⟨by rw [hZ, fr_len frZ rfl rfl]⟩
  have hZ1 : ∀ v ∈ Z, v.oneCell' = true := by rw [hZ]; exact fr_one frZ none none 0 0 0 0 rfl rfl
  have HBAD : Veil (¬ (64 < min lw 80 ∨ 4112 < min lb 5000) → (79 ≤ (frameL (F.few xw lw cw xb lb cb) (ws.take 80) (body.take 5000)).length ∧ (frameL (F.few xw lw cw xb lb cb) (ws.take 80) (body.take 5000)).length ≤ 100000) ∧
      (∀ (k : Nat) (y : Option Addr) (m d : Nat) (wx : World), k < (frameL (F.few xw lw cw xb lb cb) (ws.take 80) (body.take 5000)).length → Bytes wx y m d ((frameL (F.few xw lw cw xb lb cb) (ws.take 80) (body.take 5000)).take k) → Calls Tryd.prog 6 #[.slice y m d] wx fun e w' => e = .returned (.tuple #[.agg Z.toArray, .int .i64 3]) ∧ Below wx.heap.size wx w') ∧
      (∀ (y : Option Addr) (m d : Nat) (wx : World), Bytes wx y m d (frameL (F.few xw lw cw xb lb cb) (ws.take 80) (body.take 5000) ++ [0]) → Calls Tryd.prog 6 #[.slice y m d] wx fun e w' => e = .returned (.tuple #[.agg Z.toArray, .int .i64 3]) ∧ Below wx.heap.size wx w')) := ⟨fun hno => by
    have inF2 := few_in inF xw lw cw xb lb cb
    have inW2 : ∀ e ∈ ws.take 80, e.In := fun e he => inW e (List.mem_of_mem_take he)
    have inB2 : ∀ v ∈ body.take 5000, b8 v := fun v hv => inB v (List.mem_of_mem_take hv)
    have hok2 : ∀ e ∈ ws.take 80, e.data.length = 48 := hws2.ok
    obtain ⟨hall, hN, hW, hBo, hFr⟩ := frame_back (F.few xw lw cw xb lb cb) (ws.take 80) (body.take 5000) hp hm inF2 inW2 hok2 (by omega) (by omega)
    have hin := frameL_in (F.few xw lw cw xb lb cb) (ws.take 80) (body.take 5000) inF2 inW2 inB2 (by omega)
    have hfl : (frameL (F.few xw lw cw xb lb cb) (ws.take 80) (body.take 5000)).length = 45 + 54 * (ws.take 80).length + 2 + (body.take 5000).length + 32 := by
      unfold frameL
      rw [List.length_append, List.length_append, List.length_append, openL_length (F.few xw lw cw xb lb cb) (ws.take 80) hp hok2]
      have e2 : (be2 ((body.take 5000).length : Int)).length = 2 := rfl
      have e3 : (F.few xw lw cw xb lb cb).mac.length = 32 := hm
      omega
    have hall' : frameAll (frameL (F.few xw lw cw xb lb cb) (ws.take 80) (body.take 5000)) := hall
    refine ⟨⟨by rw [hfl]; omega, by rw [hfl]; omega⟩, fun k y m d wx hk hy => ?_, fun y m d wx hy => ?_⟩
    · refine (ReadFrame_any y m d _ wx hy (fun v hv => hin v (List.mem_of_mem_take hv))).mono fun e w' h => ?_
      rcases h with ⟨h0, _⟩ | ⟨_, h1, h2⟩
      · exact absurd h0 (cut_bad _ hall' k hk)
      · rw [hZ]; exact ⟨h1, h2⟩
    · refine (ReadFrame_any y m d _ wx hy (fun v hv => by
        rcases List.mem_append.1 hv with h | h
        · exact hin v h
        · simp at h; subst h; exact ⟨by decide, by decide⟩)).mono fun e w' h => ?_
      rcases h with ⟨h0, _⟩ | ⟨_, h1, h2⟩
      · exact absurd h0 (more_bad _ hall')
      · rw [hZ]; exact ⟨h1, h2⟩⟩
  obtain ⟨F2, hF2⟩ : ∃ q, F.few xw lw cw xb lb cb = q := ⟨_, rfl⟩
  rw [hF2] at q2 h1 hfe hfr HBAD
  obtain ⟨FL, hFL⟩ : ∃ q, frameL F2 (ws.take 80) (body.take 5000) = q := ⟨_, rfl⟩
  rw [hFL] at HBAD
  have HFB : Veil (¬ (64 < min lw 80 ∨ 4112 < min lb 5000) → frB F2 (ws.take 80) (body.take 5000) (min lw 80) (min lb 5000) = FL ∧ frE (min lw 80) (min lb 5000) = 0) := ⟨fun h => by unfold frB frE; rw [if_neg h, if_neg h]; exact ⟨hFL, rfl⟩⟩
  have HFE : Veil ((64 < min lw 80 ∨ 4112 < min lb 5000) → frE (min lw 80) (min lb 5000) = 2) := ⟨fun h => by unfold frE; rw [if_pos h]⟩
  obtain ⟨FB, hFB⟩ : ∃ q, frB F2 (ws.take 80) (body.take 5000) (min lw 80) (min lb 5000) = q := ⟨_, rfl⟩
  obtain ⟨FE, hFE⟩ : ∃ q, frE (min lw 80) (min lb 5000) = q := ⟨_, rfl⟩
  rw [hFB, hFE] at hfr HFB
  rw [hFE] at HFE
  obtain ⟨BIG, hBIG⟩ : ∃ q, (64 < min lw 80 ∨ 4112 < min lb 5000) = q := ⟨_, rfl⟩
  rw [hBIG] at HFB HFE HBAD
  have uF := Tryd.underlying30
  have iF : (Tryd.prog.info? 30).map (·.size) = some F.cells.length := by rw [q0]; exact sizeFrame
  have iF2 : (Tryd.prog.info? 30).map (·.size) = some F2.cells.length := by rw [q2]; exact sizeFrame
  have iZ : (Tryd.prog.info? 30).map (·.size) = some Z.length := by rw [HZL.out]; exact sizeFrame
  have hlq : F.cells.length = F2.cells.length := by rw [q0, q2]
  have hD0 := CellsAt.new w 30 F.cells
  have hB0 : Below w.heap.size w (w.alloc (.cells F.cells.toArray 30)) := (Below.refl _ _).alloc (Nat.le_refl _) _
  clear hT hp hm hfw hws hfb hbo hws2 hbo2 hF2 hFL hFB hFE hBIG q0 q2 inF inW inB hwl hbl hZ
  go_enter Tryd.func5, Tryd.ntmps5
  go_upto_region 1 with fail
  refine forget (p := fun y => Code.wp _ _ _ _ y) (fun W0 => Below w.heap.size w W0 ∧ CellsAt W0 w.heap.size 30 F.cells) ⟨hB0, hD0⟩ ?_
  clear hB0 hD0
  rintro W0 ⟨hB0, hD0⟩
  have rE := hD0.whole
  go_upto_region 2 with (first
    | (refine wpList_ldv rfl 30 _ rfl _ _ rfl F.cells rE uF rfl iF ?_)
    | (go_at_call 12; refine (hfe _ hB0).mono ?_; rintro e w1 ⟨rfl, hb1⟩; have hD1 := hD0.afar hb1; have hB1 := hB0.trans (hb1.mono hB0.size))
    | (refine wpList_stv rfl 30 _ _ rfl _ rfl rfl hD1 iF2 hlq h1 ?_))
  refine forget (p := fun y => Code.wp _ _ _ _ y) (fun W1 => Below w.heap.size w W1 ∧ CellsAt W1 w.heap.size 30 F2.cells) ⟨below_setRow hB1 (Nat.le_refl _) _, hD1.setRow _⟩ ?_
  clear rE hB1 hD1 hb1 hfe hB0 hD0 iF h1 hlq
  rintro W1 ⟨hB1, hD1⟩
  have rE := hD1.whole
  go_upto_region 3 with (first
    | (refine wpList_ldv rfl 30 _ rfl _ _ rfl F2.cells rE uF rfl iF2 ?_)
    | (go_at_call 13; refine (hfr _ hB1).mono ?_; rintro e w2 ⟨x2, n2, c2, rfl, hy2, hb2⟩))
  have hB2 := hB1.trans (hb2.mono hB1.size)
  clear rE hB1 hD1 hb2 hfr iF2
  by_cases hbig : BIG
  · have HE := HFE.out hbig
    subst HE
    clear hbig HFB HFE HBAD hy2
    have hv8 := hlv w2 hB2
    go_wp2_with (go_at_call 10; refine hv8.mono ?_; rintro e w9 ⟨rfl, hb9⟩)
    go_ret
    exact ⟨rfl, hB2.trans (hb9.mono hB2.size)⟩
  have HE := HFB.out hbig
  have HEB : Veil (FB = FL) := ⟨HE.1⟩
  have HE2 := HE.2
  subst HE2
  rw [HEB.out] at hy2
  obtain ⟨⟨hl79, hl1⟩, hcut, hmore⟩ := HBAD.out hbig
  have hn2 := hy2.len_eq
  have hle2 := hy2.le
  have htp2 := hy2.top
  obtain ⟨k, hk⟩ : ∃ q, u % n2 = q := ⟨_, rfl⟩
  have hkl : k < n2 := by rw [← hk]; exact Nat.mod_lt _ (by omega)
  have hmod : Int.tmod (u : Int) (n2 : Int) = (k : Int) := by rw [← hk]; exact Int.ofNat_tmod u n2 |>.symm
  have hmod2 : (u : Int) % (n2 : Int) = (k : Int) := by rw [← hk]; exact (Int.natCast_emod u n2).symm
  have hwk : IntKind.i64.wrap (k : Int) = (k : Int) := by rw [IntKind.wrap_i64]; omega
  have hwu : IntKind.i64.wrap (u : Int) = (u : Int) := by rw [IntKind.wrap_i64]; omega
  have hn0 : ((n2 : Int) == 0) = false := by simp; omega
  have hn0' : ¬ (n2 : Int) = 0 := by omega
  have hct := fun wx => run_cut_h wx x2 n2 c2 k (by omega)
  have hyk : Bytes w2 (subA x2 c2 0) k c2 (FL.take k) := by
    have := hy2.cut 0 k (by omega) (by omega)
    rw [List.drop_zero, Nat.sub_zero, Nat.sub_zero] at this
    exact this
  have hrk := hcut k (subA x2 c2 0) k c2 w2 (by omega) hyk
  obtain ⟨XK, hXK⟩ : ∃ q, subA x2 c2 0 = q := ⟨_, rfl⟩
  rw [hXK] at hct hrk
  have HLN : Veil (n2 = FL.length ∧ FL.length ≤ 100000) := ⟨hn2, hl1⟩
  clear hbig HFB HFE HBAD HE HEB hcut hyk hk hXK hl79 hl1 hn2
  go_upto_region 6 with (first
    | (go_at_call 6; refine hrk.mono ?_; rintro e w3 ⟨rfl, hb3⟩; have hN3 := CellsAt.new w3 30 Z)
    | (refine wpList_stv rfl 30 _ _ rfl _ rfl rfl hN3 iZ rfl hZ1 ?_))
  have hs3 : Below w3.heap.size w3 ((w3.alloc (.cells Z.toArray 30)).setRow w3.heap.size Z.toArray) := below_setRow ((Below.refl _ _).alloc (Nat.le_refl _) _) (Nat.le_refl _) _
  have hb23 := hb3.trans (hs3.mono hb3.size)
  have hB4 : Below w.heap.size w ((w3.alloc (.cells Z.toArray 30)).setRow w3.heap.size Z.toArray) := hB2.trans (hb23.mono hB2.size)
  have hy4 := hy2.below hb23
  obtain ⟨G3, hG3⟩ : ∃ q, w3.heap.size = q := ⟨_, rfl⟩
  obtain ⟨U4, hU4⟩ : ∃ q, (w3.alloc (.cells Z.toArray 30)).setRow w3.heap.size Z.toArray = q := ⟨_, rfl⟩
  rw [hU4] at hB4 hy4
  rw [hU4, hG3]
  clear hrk hb3 hB2 hN3 hs3 hb23 hU4 hG3 hy2 hmod hmod2 hwk hwu hct hkl hn0 hn0'
  have hE4 : OwnB (U4.alloc (.cells #[] 5)) w.heap.size (.slice (some ⟨U4.heap.size, 0, none⟩) 0 0) [] := OwnB.ofHolds (Holds.new U4 .u8 5 []) hB4.size (by simp)
  have hB5 := hB4.alloc hB4.size (.cells #[] 5)
  have hy5 := hy4.below ((Below.refl U4.heap.size U4).alloc (Nat.le_refl _) (.cells #[] 5))
  have hln5 : ([] : List Int).length + n2 ≤ 4000000 := by have := HLN.out; simp; omega
  go_upto_region 7 with (first
    | (at_builtin; refine wpList_app rfl _ _ rfl w.heap.size _ [] rfl hE4 x2 n2 c2 FL rfl hy5 hln5 hB5.size ?_; intro v6 w6 ho6 hg6; have hB6 : Below w.heap.size w w6 := below_grown hB5 hE4 hg6 hB5.size; rw [List.nil_append] at ho6; obtain ⟨x6, n6, c6, rfl, hn6⟩ := ho6.isSlice; clear hn6 hE4; have hO7 := ho6.alloc (.cells (row .u8 [0]) 5); have hB7 := hB6.alloc hB6.size (.cells (row .u8 [0]) 5); have hy7 := new_bytes w6 [0] (by simp); have hln7 : FL.length + 1 ≤ 4000000 := (by have := HLN.out; omega))
    | (at_builtin; refine wpList_app rfl _ _ rfl w.heap.size _ FL rfl hO7 (some ⟨w6.heap.size, 0, none⟩) 1 1 [0] rfl hy7 hln7 hB7.size ?_; intro v8 w8 ho8 hg8; have hB8 : Below w.heap.size w w8 := below_grown hB7 hO7 hg8 hB7.size; obtain ⟨x8, n8, c8, rfl, hn8⟩ := ho8.isSlice; clear hn8; have hr8 := hmore x8 n8 c8 w8 ho8.bytes.2)
    | (go_at_call 6; refine hr8.mono ?_; rintro e w9 ⟨rfl, hb9⟩; have hN9 := CellsAt.new w9 30 Z)
    | (refine wpList_stv rfl 30 _ _ rfl _ rfl rfl hN9 iZ rfl hZ1 ?_))
  have hB9 := hB8.trans (hb9.mono hB8.size)
  have hB10 : Below w.heap.size w ((w9.alloc (.cells Z.toArray 30)).setRow w9.heap.size Z.toArray) := below_setRow (hB9.alloc hB9.size _) hB9.size _
  obtain ⟨G9, hG9⟩ : ∃ q, w9.heap.size = q := ⟨_, rfl⟩
  obtain ⟨U10, hU10⟩ : ∃ q, (w9.alloc (.cells Z.toArray 30)).setRow w9.heap.size Z.toArray = q := ⟨_, rfl⟩
  rw [hU10] at hB10
  rw [hU10, hG9]
  have hv8 := hlv U10 hB10
  clear hB9 hb9 hN9 hU10 hG9
  go_wp2_with (go_at_call 10; refine hv8.mono ?_; rintro e w11 ⟨rfl, hb11⟩)
  go_ret
  exact ⟨rfl, hB10.trans (hb11.mono hB10.size)⟩
end Go.Proofs.YtfjmegcedgondaaDoor
