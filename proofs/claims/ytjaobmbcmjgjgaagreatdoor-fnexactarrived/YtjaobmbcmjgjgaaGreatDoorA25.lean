import Derived.Test.YtjaobmbcmjgjgaaGreatDoorA24
namespace Go.Proofs.YtjaobmbcmjgjgaaGreatDoor
set_option maxRecDepth 100000
set_option maxHeartbeats 8000000
open Go.RowKit
set_option linter.unusedVariables false
set_option linter.unusedSimpArgs false
theorem db {p:Prop} (h:p:=by
 have hHeld:=hS2
 clear hS2
 rename World=>W
 rename Mk2 _ _ _ _ _ _ _ _=>hM
 refine rq1 7 (fun K hK=>?_)
 obtain ⟨ad,cd,W2,hr,hM2⟩:=hM.Dd (a:=aD) cD HS.out.d (HRd.out _ hM.below).d
 have hS2:=HSx.out _ hM2.below
 clear hM hHeld
 refine j1 (by kernel_rfl) (some 12) (.tmp 9) (.tmp 11) 25 _ _ _ rfl rfl rfl rfl rfl hr ?_
 clear hr
 refine hK.out _ _ (hS2) (fun hHeld=>?_)
 clear hK K
 try simp only [Act.put,PZ]
 clear hHeld
 have hHeld:=hS2
 clear hS2
 rename World=>W
 rename Mk2 _ _ _ _ _ _ _ _=>hM
 refine ka (i:=12) (some 17) (v:=?_) rfl rfl (by kernel_rfl) (by kernel_rfl) (by kernel_rfl) (fun _ _ _ h=>absurd h.1 (by simp)) (by kernel_rfl) ?_ (by assumption) ?_
 rotate_left
 · exact dk
 try simp only [Act.put,PZ]
 exact dq):p:=h
theorem dc {p:Prop} (h:p:=by
 have hHeld:=hS2
 clear hS2
 rename World=>W
 rename Mk2 _ _ _ _ _ _ _ _=>hM
 refine rq2 7 13 (fun K hK=>?_) (fun K hK=>?_)
 ·
  obtain ⟨ad,cd,W2,hr,hM2⟩:=hM.Dd (a:=aD) cD HS.out.d (HRd.out _ hM.below).d
  have hS2:=HSx.out _ hM2.below
  clear hM hHeld
  refine j1 (by kernel_rfl) (some 12) (.tmp 9) (.tmp 11) 25 _ _ _ rfl rfl rfl rfl rfl hr ?_
  clear hr
  refine hK.out _ _ (hS2) (fun hHeld=>?_)
  clear hK K
  try simp only [Act.put,PZ]
  clear hHeld
  have hHeld:=hS2
  clear hS2
  rename World=>W
  rename Mk2 _ _ _ _ _ _ _ _=>hM
  refine ka (i:=12) (some 17) (v:=?_) rfl rfl (by kernel_rfl) (by kernel_rfl) (by kernel_rfl) (fun _ _ _ h=>absurd h.1 (by simp)) (by kernel_rfl) ?_ (by assumption) ?_
  rotate_left
  · exact dk
  try simp only [Act.put,PZ]
  refine rq1 13 (fun K hK=>?_)
  obtain ⟨gB,W2,hg,hW,hM2⟩:=hM.A6
  have hS2:=HSx.out _ hM2.below
  clear hM hHeld
  go_simp
  refine hK.out _ _ (by rw [←hW];exact hS2) (fun hHeld=>?_)
  clear hK K
  try simp only [Act.put,PZ]
  rw [←hg,←hW]
  clear hg hW hHeld
  have hHeld:=hS2
  clear hS2
  rename World=>W
  rename Mk2 _ _ _ _ _ _ _ _=>hM
  exact dq
 obtain ⟨gB,W2,hg,hW,hM2⟩:=hM.A6
 exact dt):p:=h
theorem de {p:Prop} (h:p:=by
 have hS2:=HSx.out _ hM2.below
 clear hM hHeld
 go_simp
 refine hK.out _ _ (by rw [←hW];exact hS2) (fun hHeld=>?_)
 clear hK K
 try simp only [Act.put,PZ]
 rw [←hg,←hW]
 clear hg hW hHeld
 have hHeld:=hS2
 clear hS2
 rename World=>W
 rename Mk2 _ _ _ _ _ _ _ _=>hM
 refine rq1 3 (fun K hK=>?_)
 obtain ⟨aq,cq,W2,hr,hM2⟩:=hM.CZ (a:=aQ) cQ HS.out.q (HRd.out _ hM.below).q
 have hS2:=HSx.out _ hM2.below
 clear hM hHeld
 refine j1 (by kernel_rfl) (some 8) (.tmp 5) (.tmp 7) 25 _ _ _ rfl rfl rfl rfl rfl hr ?_
 clear hr
 refine hK.out _ _ (hS2) (fun hHeld=>?_)
 clear hK K
 try simp only [Act.put,PZ]
 clear hHeld
 exact db):p:=h
theorem df {p:Prop} (h:p:=by
 go_simp
 refine hK.out _ _ (s3) (fun hHeld=>?_)
 clear hK K
 try simp only [Act.put,PZ]
 refine rq1 10 (fun K hK=>?_)
 refine j1 (by kernel_rfl) (some 35) (.tmp 26) (.tmp 34) 83 _ _ _ rfl rfl rfl rfl rfl r2 ?_
 refine hK.out _ _ (s4) (fun hHeld=>?_)
 clear hK K
 try simp only [Act.put,PZ]
 refine tQ 11 36 ?_
 refine rq1 12 (fun K hK=>?_)
 go_simp
 refine hK.out _ _ (s5) (fun hHeld=>?_)
 clear hK K
 try simp only [Act.put,PZ]
 refine dnq ?_
 clear s0 s1 s2 s3 s4 s5 b0 b1 b2 b3 b4 f4 hHeld
 go_wp2_with fail
 go_roundw
 case rel=>exact ⟨k+1,_,_,av',cv',by omega,by go_num,HCp5.out,HB5.out,HkB5.out⟩
 case measure=>simp [intOf];omega):p:=h
theorem dg {p:Prop} (h:p:=by
 go_simp
 refine hK.out _ _ q1 (fun hHeld=>?_)
 clear hK K
 try simp only [Act.put,PZ]
 refine rq1 10 (fun K hK=>?_)
 refine j1 (by kernel_rfl) (some 45) (.tmp 42) (.tmp 44) 25 _ _ _ rfl rfl rfl rfl rfl hrun ?_
 refine hK.out _ _ q2 (fun hHeld=>?_)
 clear hK K
 try simp only [Act.put,PZ]
 refine tC 11 46 (v:=?_) ?_ ?_
 rotate_left
 · exact dm
 try simp only [Act.put,PZ]
 refine rq1 12 (fun K hK=>?_)
 go_simp
 refine hK.out _ _ q3 (fun hHeld=>?_)
 clear hK K
 try simp only [Act.put,PZ]
 refine dnq ?_
 rw [←HW6.out]
 clear q0 q1 q2 q3 hHeld rS4 rS4' cS5 fS5
 go_wp2_with fail
 have ht:=iS W6 (w.heap.size+1) (.slice aq nQ cq) (.slice ad nD cd) (.int .i64 turn) (.bool fresh) (.slice (some ⟨gS,0,none⟩) nS nS)
 have cF:=fF (kh kB6 (.slice aq nQ cq) (.slice ad nD cd) (.int .i64 turn) (.bool fresh) (.slice (some ⟨gS,0,none⟩) nS nS))
 have hBf:=HB6.out.trans (ht.below HB6.out.size (fun x hx=>by simp at hx;omega))
 have hOf:=(HOw.out.kO ht (fun x hx=>by simp at hx;omega)).mono hbw
 unfold qJ at cF hBf hOf
 exact bodyPost_ret (v:=.tuple #[.agg ((Rnd.cp ⟨aQ,nQ,cQ,q,aD,nD,cD,d,turn,fresh,some ⟨gs,os,none⟩,nS,cS,A,L,C,z⟩ aq cq ad cd gS A' C').push k s a' c').cells,.bool true]) (by simp [results,Tryz.results159,go_sem,cF,Rnd.cp,Rnd.push,Rnd.cells]) rfl ⟨_,rfl,hOf,hBf,HAl.out⟩):p:=h
theorem dh {p:Prop} (h:p:=by
 have hokF:ok=false:=by
  cases ok
  ·
   rfl
  exact absurd (HO.out.1 rfl) HNo.out
 subst hokF
 have cX:=fF kB
 have fX:=fZ kB
 go_wp2_with fail
 have ht:=iS w2 (w.heap.size+1) (.slice none 0 0) (.slice none 0 0) (.int .i64 0) (.bool false) (.slice none 0 0)
 have cF:=fF (kh kB (.slice none 0 0) (.slice none 0 0) (.int .i64 0) (.bool false) (.slice none 0 0))
 have hBf:=B2.trans (ht.below B2.size (fun x hx=>by simp at hx;omega))
 exact du):p:=h
theorem di {p:Prop} (h:p:=by
 have hS2:=HSx.out _ hM2.below
 clear hM hHeld
 go_simp
 refine hK.out _ _ (by rw [←hW];exact hS2) (fun hHeld=>?_)
 clear hK K
 try simp only [Act.put,PZ]
 rw [←hg,←hW]
 clear hg hW hHeld
 have hHeld:=hS2
 clear hS2
 rename World=>W
 rename Mk2 _ _ _ _ _ _ _ _=>hM
 refine rq2 3 4 (fun K hK=>?_) (fun K hK=>?_)
 ·
  obtain ⟨aq,cq,W2,hr,hM2⟩:=hM.CZ (a:=aQ) cQ HS.out.q (HRd.out _ hM.below).q
  have hS2:=HSx.out _ hM2.below
  clear hM hHeld
  refine j1 (by kernel_rfl) (some 8) (.tmp 5) (.tmp 7) 25 _ _ _ rfl rfl rfl rfl rfl hr ?_
  clear hr
  refine hK.out _ _ (hS2) (fun hHeld=>?_)
  clear hK K
  try simp only [Act.put,PZ]
  clear hHeld
  exact dv
 obtain ⟨gE2,W2,hg,hW,hM2⟩:=hM.wQ
 exact de):p:=h
theorem dj {p:Prop} (h:p:=by
 have hS2:=HSx.out _ hM2.below
 clear hM hHeld
 go_simp
 refine hK.out _ _ (by rw [←hW];exact hS2) (fun hHeld=>?_)
 clear hK K
 try simp only [Act.put,PZ]
 rw [←hg,←hW]
 clear hg hW hHeld
 have hHeld:=hS2
 clear hS2
 rename World=>W
 rename Mk2 _ _ _ _ _ _ _ _=>hM
 refine rq2 3 13 (fun K hK=>?_) (fun K hK=>?_)
 ·
  obtain ⟨aq,cq,W2,hr,hM2⟩:=hM.CZ (a:=aQ) cQ HS.out.q (HRd.out _ hM.below).q
  have hS2:=HSx.out _ hM2.below
  clear hM hHeld
  refine j1 (by kernel_rfl) (some 8) (.tmp 5) (.tmp 7) 25 _ _ _ rfl rfl rfl rfl rfl hr ?_
  clear hr
  refine hK.out _ _ (hS2) (fun hHeld=>?_)
  clear hK K
  try simp only [Act.put,PZ]
  clear hHeld
  exact dc
 obtain ⟨gB,W2,hg,hW,hM2⟩:=hM.A6
 exact de):p:=h
theorem dk {p:Prop} (h:p:=by
 intro wx hSw
 obtain ⟨hS1,hS2,hS3,hS4⟩:=hSw
 go_simp
 try with_reducible rfl):p:=h
theorem dm {p:Prop} (h:p:=by
 intro wx hSw
 try dsimp only at hSw
 go_simp
 try with_reducible rfl):p:=h
theorem dn {p:Prop} (h:p:=by
 have hS2:=HSx.out _ hM2.below
 clear hM hHeld
 go_simp
 refine hK.out _ _ (by rw [←hW];exact hS2) (fun hHeld=>?_)
 clear hK K
 try simp only [Act.put,PZ]
 rw [←hg,←hW]
 clear hg hW hHeld
 have hHeld:=hS2
 clear hS2
 rename World=>W
 rename Mk2 _ _ _ _ _ _ _ _=>hM
 refine rq1 0 (fun K hK=>?_)
 obtain ⟨gE1,W2,hg,hW,hM2⟩:=hM.Ap
 exact de):p:=h
theorem dp {p:Prop} (h:p:=by
 go_simp
 refine hK.out _ _ (s1) (fun hHeld=>?_)
 clear hK K
 try simp only [Act.put,PZ]
 refine rq1 8 (fun K hK=>?_)
 refine j1 (by kernel_rfl) (some 33) (.tmp 27) (.tmp 32) 25 _ _ _ rfl rfl rfl rfl rfl r1 ?_
 exact dw):p:=h
theorem dq {p:Prop} (h:p:=by
 have cB:=fF (hM.b gB rfl).2
 have fB:=fZ (hM.b gB rfl).2
 unfold oJ at cB
 have hS5:=HSs.out W gB (.slice aq nQ cq) (.slice ad nD cd) (.int .i64 turn) (.bool fresh) (.slice none 0 0) hM.below (hM.b gB rfl).1
 unfold qJ at hS5
 refine rq1 14 (fun K hK=>?_)
 go_simp
 refine hK.out _ _ (hS5) (fun hHeld=>?_)
 clear hK K
 try simp only [Act.put,PZ]
 refine dnq ?_
 exact ⟨rfl,aq,cq,ad,cd,gB,gE1,gE2,W,hM,rfl,rfl⟩):p:=h
theorem dt {p:Prop} (h:p:=by
 have hS2:=HSx.out _ hM2.below
 clear hM hHeld
 go_simp
 refine hK.out _ _ (by rw [←hW];exact hS2) (fun hHeld=>?_)
 clear hK K
 try simp only [Act.put,PZ]
 rw [←hg,←hW]
 clear hg hW hHeld
 exact db):p:=h
theorem du {p:Prop} (h:p:=by
 unfold qJ at cF hBf
 exact bodyPost_ret (v:=.tuple #[.agg zR.cells,.bool false]) (by simp [results,Tryz.results159,go_sem,cF,zR,Rnd.cells]) rfl ⟨zR,rfl,C7 _ _,hBf,Alike.refl _⟩):p:=h
theorem dv {p:Prop} (h:p:=by
 have hHeld:=hS2
 clear hS2
 rename World=>W
 rename Mk2 _ _ _ _ _ _ _ _=>hM
 refine rq1 4 (fun K hK=>?_)
 obtain ⟨gE2,W2,hg,hW,hM2⟩:=hM.wQ
 exact dt):p:=h
theorem dw {p:Prop} (h:p:=by
 refine hK.out _ _ (s2) (fun hHeld=>?_)
 clear hK K
 try simp only [Act.put,PZ]
 refine rq1 9 (fun K hK=>?_)
 exact df):p:=h
theorem oP {w w1:World} {A B:Obj} (h:Below ((w.alloc A).alloc B).heap.size ((w.alloc A).alloc B) w1) :
  w1.heap[w.heap.size]?=some A∧w1.heap[w.heap.size+1]?=some B∧Below w.heap.size w w1∧w.heap.size+2≤w1.heap.size:=by
 have e1:(w.alloc A).heap.size=w.heap.size+1:=by simp
 have e2:((w.alloc A).alloc B).heap.size=w.heap.size+1+1:=by simp
 rw [e2] at h
 have b1:=fK w A
 have b2:=fK (w.alloc A) B
 rw [e1] at b2
 refine ⟨?_,?_,?_,?_⟩
 ·
  rw [h.block _ (by omega),fY _ (by rw [e1];omega)];exact b1
 ·
  rw [h.block _ (by omega)];exact b2
 ·
  exact (((Below.refl _ _).alloc (Nat.le_refl _) _).alloc (by rw [e1];omega) _).trans (h.mono (by omega))
 have:=h.size
 omega
theorem lh (R:Rnd) (w:World) (hs:R.Small) (h:jw w R) :
  Calls Tryz.prog 97 #[.agg R.cells] w fun e w'=>∃ aq cq ad cd av cv A C,e=.returned (.agg (R.cp2 aq cq ad cd av cv A C).cells)∧iv w' w.heap.size (R.cp2 aq cq ad cd av cv A C)∧Below w.heap.size w w':=by
 obtain ⟨aQ,nQ,cQ,q,aD,nD,cD,d,turn,fresh,aS,nS,cS,A,L,C,z⟩:=R
 have HS:Hid (Rnd.Small ⟨aQ,nQ,cQ,q,aD,nD,cD,d,turn,fresh,aS,nS,cS,A,L,C,z⟩):=hs
 have hB0:Below w.heap.size w ((w.alloc (.cells #[.slice aQ nQ cQ,.slice aD nD cD,.int .i64 turn,.bool fresh,.slice aS nS cS] 97)).alloc (.cells #[.slice none 0 0,.slice none 0 0,.int .i64 0,.bool false,.slice none 0 0] 97)):=((Below.refl _ _).alloc (Nat.le_refl _) _).alloc (by simp) _
 have HRd:Hid (∀ W,Below ((w.alloc (.cells #[.slice aQ nQ cQ,.slice aD nD cD,.int .i64 turn,.bool fresh,.slice aS nS cS] 97)).alloc (.cells #[.slice none 0 0,.slice none 0 0,.int .i64 0,.bool false,.slice none 0 0] 97)).heap.size ((w.alloc (.cells #[.slice aQ nQ cQ,.slice aD nD cD,.int .i64 turn,.bool fresh,.slice aS nS cS] 97)).alloc (.cells #[.slice none 0 0,.slice none 0 0,.int .i64 0,.bool false,.slice none 0 0] 97)) W→jw W ⟨aQ,nQ,cQ,q,aD,nD,cD,d,turn,fresh,aS,nS,cS,A,L,C,z⟩):=fun W hb=>h.up (hB0.trans (hb.mono hB0.size))
 have HSz:Hid (((w.alloc (.cells #[.slice aQ nQ cQ,.slice aD nD cD,.int .i64 turn,.bool fresh,.slice aS nS cS] 97)).alloc (.cells #[.slice none 0 0,.slice none 0 0,.int .i64 0,.bool false,.slice none 0 0] 97)).heap.size=w.heap.size+1+1):=by rw [Hid];simp
 have HkA:Hid (∀ W,Below ((w.alloc (.cells #[.slice aQ nQ cQ,.slice aD nD cD,.int .i64 turn,.bool fresh,.slice aS nS cS] 97)).alloc (.cells #[.slice none 0 0,.slice none 0 0,.int .i64 0,.bool false,.slice none 0 0] 97)).heap.size ((w.alloc (.cells #[.slice aQ nQ cQ,.slice aD nD cD,.int .i64 turn,.bool fresh,.slice aS nS cS] 97)).alloc (.cells #[.slice none 0 0,.slice none 0 0,.int .i64 0,.bool false,.slice none 0 0] 97)) W→W.heap[w.heap.size]?=some (.cells #[.slice aQ nQ cQ,.slice aD nD cD,.int .i64 turn,.bool fresh,.slice aS nS cS] 97 (0,0))∧W.heap[w.heap.size+1]?=some (.cells #[.slice none 0 0,.slice none 0 0,.int .i64 0,.bool false,.slice none 0 0] 97 (0,0))∧Below w.heap.size w W):=fun W hb=>by
  obtain ⟨h1,h2,h3,_⟩:=oP hb
  exact ⟨h1,h2,h3⟩
 have HSx:Hid (∀ W,Below ((w.alloc (.cells #[.slice aQ nQ cQ,.slice aD nD cD,.int .i64 turn,.bool fresh,.slice aS nS cS] 97)).alloc (.cells #[.slice none 0 0,.slice none 0 0,.int .i64 0,.bool false,.slice none 0 0] 97)).heap.size ((w.alloc (.cells #[.slice aQ nQ cQ,.slice aD nD cD,.int .i64 turn,.bool fresh,.slice aS nS cS] 97)).alloc (.cells #[.slice none 0 0,.slice none 0 0,.int .i64 0,.bool false,.slice none 0 0] 97)) W→W.cell? ⟨w.heap.size,0,none⟩=some (.slice aQ nQ cQ)∧W.cell? ⟨w.heap.size,1,none⟩=some (.slice aD nD cD)∧W.cell? ⟨w.heap.size,2,none⟩=some (.int .i64 turn)∧W.cell? ⟨w.heap.size,3,none⟩=some (.bool fresh)):=fun W hb=>by
  have c:=fF (HkA.out W hb).1
  exact ⟨c 0,c 1,c 2,c 3⟩
 have HSs:Hid (∀ (W:World) (g:Nat) (v0 v1 v2 v3 v4:Value),Below ((w.alloc (.cells #[.slice aQ nQ cQ,.slice aD nD cD,.int .i64 turn,.bool fresh,.slice aS nS cS] 97)).alloc (.cells #[.slice none 0 0,.slice none 0 0,.int .i64 0,.bool false,.slice none 0 0] 97)).heap.size ((w.alloc (.cells #[.slice aQ nQ cQ,.slice aD nD cD,.int .i64 turn,.bool fresh,.slice aS nS cS] 97)).alloc (.cells #[.slice none 0 0,.slice none 0 0,.int .i64 0,.bool false,.slice none 0 0] 97)) W→((w.alloc (.cells #[.slice aQ nQ cQ,.slice aD nD cD,.int .i64 turn,.bool fresh,.slice aS nS cS] 97)).alloc (.cells #[.slice none 0 0,.slice none 0 0,.int .i64 0,.bool false,.slice none 0 0] 97)).heap.size≤g→(qJ W g v0 v1 v2 v3 v4).cell? ⟨w.heap.size,0,none⟩=some (.slice aQ nQ cQ)∧(qJ W g v0 v1 v2 v3 v4).cell? ⟨w.heap.size,1,none⟩=some (.slice aD nD cD)∧(qJ W g v0 v1 v2 v3 v4).cell? ⟨w.heap.size,2,none⟩=some (.int .i64 turn)∧(qJ W g v0 v1 v2 v3 v4).cell? ⟨w.heap.size,3,none⟩=some (.bool fresh)):=fun W g v0 v1 v2 v3 v4 hb hg=>by
  have ht:=iS W g v0 v1 v2 v3 v4
  exact HSx.out _ (hb.trans (ht.below hb.size (fun x hx=>by simp at hx;omega)))
 have HR:Hid (jw w ⟨aQ,nQ,cQ,q,aD,nD,cD,d,turn,fresh,aS,nS,cS,A,L,C,z⟩):=h
 have hnS:(nS:Int)≤1048576:=by have:nS≤1048576:=hs.s;omega
 clear hB0 h hs
 dsimp only [Rnd.cells]
 go_enter Tryz.func97,Tryz.ntmps97
 go_wp2_with fail
 refine wp_mono (Q:=fun e a' W=>e=.normal∧∃ (aq:Option Addr) (cq:Nat) (ad:Option Addr) (cd gB gE1 gE2:Nat) (W':World),Mk2 ⟨aQ,nQ,cQ,q,aD,nD,cD,d,turn,fresh,aS,nS,cS,A,L,C,z⟩ ((w.alloc (.cells #[.slice aQ nQ cQ,.slice aD nD cD,.int .i64 turn,.bool fresh,.slice aS nS cS] 97)).alloc (.cells #[.slice none 0 0,.slice none 0 0,.int .i64 0,.bool false,.slice none 0 0] 97)) W' none none (some aq) (some ad) (some gB)∧a'=⟨#[.agg #[.slice aQ nQ cQ,.slice aD nD cD,.int .i64 turn,.bool fresh,.slice aS nS cS],.pointer (some ⟨w.heap.size,0,none⟩),.pointer (some ⟨w.heap.size+1,0,none⟩),.pointer (some ⟨gB,0,none⟩),undef,.slice (some ⟨gE1,0,none⟩) 0 0,.pointer (some ⟨w.heap.size,0,none⟩),.slice aQ nQ cQ,.slice aq nQ cq,.slice (some ⟨gE2,0,none⟩) 0 0,.pointer (some ⟨w.heap.size,1,none⟩),.slice aD nD cD,.slice ad nD cd,.pointer (some ⟨w.heap.size,2,none⟩),.int .i64 turn,.pointer (some ⟨w.heap.size,3,none⟩),.bool fresh,.agg #[.slice aq nQ cq,.slice ad nD cd,.int .i64 turn,.bool fresh,.slice none 0 0],undef,undef,undef,undef,undef,undef,undef,undef,undef,undef,undef,undef,undef,undef,undef,undef,undef,undef,undef,undef],[]⟩∧W=qJ W' gB (.slice aq nQ cq) (.slice ad nD cd) (.int .i64 turn) (.bool fresh) (.slice none 0 0)) ?_ ?_
 ·
  have hM:Mk2 ⟨aQ,nQ,cQ,q,aD,nD,cD,d,turn,fresh,aS,nS,cS,A,L,C,z⟩ ((w.alloc (.cells #[.slice aQ nQ cQ,.slice aD nD cD,.int .i64 turn,.bool fresh,.slice aS nS cS] 97)).alloc (.cells #[.slice none 0 0,.slice none 0 0,.int .i64 0,.bool false,.slice none 0 0] 97)) ((w.alloc (.cells #[.slice aQ nQ cQ,.slice aD nD cD,.int .i64 turn,.bool fresh,.slice aS nS cS] 97)).alloc (.cells #[.slice none 0 0,.slice none 0 0,.int .i64 0,.bool false,.slice none 0 0] 97)).drew none none none none none:=Mk2.start ((Below.refl _ _).drew)
  have hS0:=HSx.out _ hM.below
  refine wp_region_held_drew (S:=fun w'=>w'.cell? ⟨w.heap.size,0,none⟩=some (.slice aQ nQ cQ)∧w'.cell? ⟨w.heap.size,1,none⟩=some (.slice aD nD cD)∧w'.cell? ⟨w.heap.size,2,none⟩=some (.int .i64 turn)∧w'.cell? ⟨w.heap.size,3,none⟩=some (.bool fresh)) (by kernel_rfl) hS0 (fun hHeld=>?_)
  clear hHeld
  have hHeld:=hS0
  clear hS0
  generalize hW:((w.alloc (.cells #[.slice aQ nQ cQ,.slice aD nD cD,.int .i64 turn,.bool fresh,.slice aS nS cS] 97)).alloc (.cells #[.slice none 0 0,.slice none 0 0,.int .i64 0,.bool false,.slice none 0 0] 97)).drew=W at hM hHeld ⊢
  clear hW
  refine ka (i:=1) (some 6) (v:=?_) rfl rfl (by kernel_rfl) (by kernel_rfl) (by kernel_rfl) (fun _ _ _ h=>absurd h.1 (by simp)) (by kernel_rfl) ?_ (by assumption) ?_
  rotate_left
  · exact dk
  try simp only [Act.put,PZ]
  refine ka (i:=2) (some 7) (v:=?_) rfl rfl (by kernel_rfl) (by kernel_rfl) (by kernel_rfl) (fun _ _ _ h=>absurd h.1 (by simp)) (by kernel_rfl) ?_ (by assumption) ?_
  rotate_left
  · exact dk
  try simp only [Act.put,PZ]
  refine ka (i:=5) (some 10) (v:=?_) rfl rfl (by kernel_rfl) (by kernel_rfl) (by kernel_rfl) (fun _ _ _ h=>absurd h.1 (by simp)) (by kernel_rfl) ?_ (by assumption) ?_
  rotate_left
  · exact dk
  try simp only [Act.put,PZ]
  refine ka (i:=6) (some 11) (v:=?_) rfl rfl (by kernel_rfl) (by kernel_rfl) (by kernel_rfl) (fun _ _ _ h=>absurd h.1 (by simp)) (by kernel_rfl) ?_ (by assumption) ?_
  rotate_left
  · exact dk
  try simp only [Act.put,PZ]
  refine ka (i:=8) (some 13) (v:=?_) rfl rfl (by kernel_rfl) (by kernel_rfl) (by kernel_rfl) (fun _ _ _ h=>absurd h.1 (by simp)) (by kernel_rfl) ?_ (by assumption) ?_
  rotate_left
  · exact dk
  try simp only [Act.put,PZ]
  refine ka (i:=9) (some 14) (v:=?_) rfl rfl (by kernel_rfl) (by kernel_rfl) (by kernel_rfl) (fun _ _ _ h=>absurd h.1 (by simp)) (by kernel_rfl) ?_ (by assumption) ?_
  rotate_left
  · exact dk
  try simp only [Act.put,PZ]
  refine ka (i:=10) (some 15) (v:=?_) rfl rfl (by kernel_rfl) (by kernel_rfl) (by kernel_rfl) (fun _ _ _ h=>absurd h.1 (by simp)) (by kernel_rfl) ?_ (by assumption) ?_
  rotate_left
  · exact dk
  try simp only [Act.put,PZ]
  refine ka (i:=11) (some 16) (v:=?_) rfl rfl (by kernel_rfl) (by kernel_rfl) (by kernel_rfl) (fun _ _ _ h=>absurd h.1 (by simp)) (by kernel_rfl) ?_ (by assumption) ?_
  rotate_left
  · exact dk
  try simp only [Act.put,PZ]
  refine wpAnyH_ready (rs:=[0,4,13]) (by kernel_rfl) (by simp) ?_
  refine AllReadyH.cons rfl (fun K hK=>?_) (AllReadyH.cons rfl (fun K hK=>?_) (AllReadyH.cons rfl (fun K hK=>?_) AllReadyH.nil))
  ·
   obtain ⟨gE1,W2,hg,hW,hM2⟩:=hM.Ap
   have hS2:=HSx.out _ hM2.below
   clear hM hHeld
   go_simp
   refine hK.out _ _ (by rw [←hW];exact hS2) (fun hHeld=>?_)
   clear hK K
   try simp only [Act.put,PZ]
   rw [←hg,←hW]
   clear hg hW hHeld
   have hHeld:=hS2
   clear hS2
   rename World=>W
   rename Mk2 _ _ _ _ _ _ _ _=>hM
   refine wpAnyH_ready (rs:=[3,4,13]) (by kernel_rfl) (by simp) ?_
   refine AllReadyH.cons rfl (fun K hK=>?_) (AllReadyH.cons rfl (fun K hK=>?_) (AllReadyH.cons rfl (fun K hK=>?_) AllReadyH.nil))
   ·
    obtain ⟨aq,cq,W2,hr,hM2⟩:=hM.CZ (a:=aQ) cQ HS.out.q (HRd.out _ hM.below).q
    have hS2:=HSx.out _ hM2.below
    clear hM hHeld
    refine j1 (by kernel_rfl) (some 8) (.tmp 5) (.tmp 7) 25 _ _ _ rfl rfl rfl rfl rfl hr ?_
    clear hr
    refine hK.out _ _ (hS2) (fun hHeld=>?_)
    clear hK K
    try simp only [Act.put,PZ]
    clear hHeld
    have hHeld:=hS2
    clear hS2
    rename World=>W
    rename Mk2 _ _ _ _ _ _ _ _=>hM
    refine rq2 4 13 (fun K hK=>?_) (fun K hK=>?_)
    ·
     obtain ⟨gE2,W2,hg,hW,hM2⟩:=hM.wQ
     have hS2:=HSx.out _ hM2.below
     clear hM hHeld
     go_simp
     refine hK.out _ _ (by rw [←hW];exact hS2) (fun hHeld=>?_)
     clear hK K
     try simp only [Act.put,PZ]
     rw [←hg,←hW]
     clear hg hW hHeld
     exact dc
    obtain ⟨gB,W2,hg,hW,hM2⟩:=hM.A6
    have hS2:=HSx.out _ hM2.below
    clear hM hHeld
    go_simp
    refine hK.out _ _ (by rw [←hW];exact hS2) (fun hHeld=>?_)
    clear hK K
    try simp only [Act.put,PZ]
    rw [←hg,←hW]
    clear hg hW hHeld
    exact dv
   ·
    obtain ⟨gE2,W2,hg,hW,hM2⟩:=hM.wQ
    exact dj
   obtain ⟨gB,W2,hg,hW,hM2⟩:=hM.A6
   exact di
  ·
   obtain ⟨gE2,W2,hg,hW,hM2⟩:=hM.wQ
   have hS2:=HSx.out _ hM2.below
   clear hM hHeld
   go_simp
   refine hK.out _ _ (by rw [←hW];exact hS2) (fun hHeld=>?_)
   clear hK K
   try simp only [Act.put,PZ]
   rw [←hg,←hW]
   clear hg hW hHeld
   have hHeld:=hS2
   clear hS2
   rename World=>W
   rename Mk2 _ _ _ _ _ _ _ _=>hM
   refine rq2 0 13 (fun K hK=>?_) (fun K hK=>?_)
   ·
    obtain ⟨gE1,W2,hg,hW,hM2⟩:=hM.Ap
    exact dj
   obtain ⟨gB,W2,hg,hW,hM2⟩:=hM.A6
   exact dn
  obtain ⟨gB,W2,hg,hW,hM2⟩:=hM.A6
  have hS2:=HSx.out _ hM2.below
  clear hM hHeld
  go_simp
  refine hK.out _ _ (by rw [←hW];exact hS2) (fun hHeld=>?_)
  clear hK K
  try simp only [Act.put,PZ]
  rw [←hg,←hW]
  clear hg hW hHeld
  have hHeld:=hS2
  clear hS2
  rename World=>W
  rename Mk2 _ _ _ _ _ _ _ _=>hM
  refine rq2 0 4 (fun K hK=>?_) (fun K hK=>?_)
  ·
   obtain ⟨gE1,W2,hg,hW,hM2⟩:=hM.Ap
   exact di
  obtain ⟨gE2,W2,hg,hW,hM2⟩:=hM.wQ
  exact dn
 rintro e a' W ⟨rfl,aq,cq,ad,cd,gB,gE1,gE2,W',hM,rfl,rfl⟩
 have hb:=hM.b gB rfl
 unfold oJ at hb
 have ht:=iS W' gB (.slice aq nQ cq) (.slice ad nD cd) (.int .i64 turn) (.bool fresh) (.slice none 0 0)
 have kB1:=kh hb.2 (.slice aq nQ cq) (.slice ad nD cd) (.int .i64 turn) (.bool fresh) (.slice none 0 0)
 have k2:∀ (g:Nat) (arr:Array Value),W'.heap[g]?=some (.cells arr 2 (0,0))→(qJ W' gB (.slice aq nQ cq) (.slice ad nD cd) (.int .i64 turn) (.bool fresh) (.slice none 0 0)).heap[g]?=some (.cells arr 2 (0,0)):=fun g arr hg=>(ht.block g (fG hg) (fun hx=>by
  simp at hx
  subst hx
  rw [hb.2] at hg
  simp at hg)).trans hg
 have HCp0:Hid (Cp2 ⟨aQ,nQ,cQ,q,aD,nD,cD,d,turn,fresh,aS,nS,cS,A,L,C,z⟩ ((w.alloc (.cells #[.slice aQ nQ cQ,.slice aD nD cD,.int .i64 turn,.bool fresh,.slice aS nS cS] 97)).alloc (.cells #[.slice none 0 0,.slice none 0 0,.int .i64 0,.bool false,.slice none 0 0] 97)).heap.size (qJ W' gB (.slice aq nQ cq) (.slice ad nD cd) (.int .i64 turn) (.bool fresh) (.slice none 0 0)) aq ad none 0 A C 0):=⟨(hM.q aq rfl).ow k2,(hM.d ad rfl).ow k2,World.ownsRow_nil _ _ _ _,fun i hi=>by omega,hM.qd aq ad rfl rfl,fun i hi=>by omega,fun i hi=>by omega,fun i j hi=>by omega⟩
 have HBl0:Hid (Below ((w.alloc (.cells #[.slice aQ nQ cQ,.slice aD nD cD,.int .i64 turn,.bool fresh,.slice aS nS cS] 97)).alloc (.cells #[.slice none 0 0,.slice none 0 0,.int .i64 0,.bool false,.slice none 0 0] 97)).heap.size ((w.alloc (.cells #[.slice aQ nQ cQ,.slice aD nD cD,.int .i64 turn,.bool fresh,.slice aS nS cS] 97)).alloc (.cells #[.slice none 0 0,.slice none 0 0,.int .i64 0,.bool false,.slice none 0 0] 97)) (qJ W' gB (.slice aq nQ cq) (.slice ad nD cd) (.int .i64 turn) (.bool fresh) (.slice none 0 0))):=hM.below.trans (ht.below hM.below.size (fun x hx=>by simp at hx;omega))
 have HkB0:Hid ((qJ W' gB (.slice aq nQ cq) (.slice ad nD cd) (.int .i64 turn) (.bool fresh) (.slice none 0 0)).heap[gB]?=_):=kB1
 have HgB:Hid (((w.alloc (.cells #[.slice aQ nQ cQ,.slice aD nD cD,.int .i64 turn,.bool fresh,.slice aS nS cS] 97)).alloc (.cells #[.slice none 0 0,.slice none 0 0,.int .i64 0,.bool false,.slice none 0 0] 97)).heap.size≤gB):=hb.1
 clear hM hb ht kB1 k2 HSx HSs
 generalize qJ W' gB (.slice aq nQ cq) (.slice ad nD cd) (.int .i64 turn) (.bool fresh) (.slice none 0 0)=W1 at *
 go_wp2_with fail
 generalize ((w.alloc (.cells #[.slice aQ nQ cQ,.slice aD nD cD,.int .i64 turn,.bool fresh,.slice aS nS cS] 97)).alloc (.cells #[.slice none 0 0,.slice none 0 0,.int .i64 0,.bool false,.slice none 0 0] 97))=w0 at *
 go_loopw [4] (fun i wr=>∃ (k:Nat) (A':Nat→Option Addr) (C':Nat→Nat) (av:Option Addr) (cv:Nat),k≤nS∧i=.int .i64 k∧Cp2 ⟨aQ,nQ,cQ,q,aD,nD,cD,d,turn,fresh,aS,nS,cS,A,L,C,z⟩ w0.heap.size wr aq ad av cv A' C' k∧Below w0.heap.size w0 wr∧wr.heap[gB]?=some (.cells #[.slice aq nQ cq,.slice ad nD cd,.int .i64 turn,.bool fresh,.slice av k cv] 97 (0,0))) (fun i _=>nS-(intOf i).toNat)
 case atStart=>exact ⟨0,A,C,none,0,Nat.zero_le _,rfl,HCp0.out,HBl0.out,HkB0.out⟩
 obtain ⟨k,A',C',av,cv,hk,rfl,hCp,hB,hkB⟩:=hrel
 clear HCp0 HBl0 HkB0
 obtain ⟨kA,kZ,hBw⟩:=HkA.out wr hB
 have HCp:Hid (Cp2 ⟨aQ,nQ,cQ,q,aD,nD,cD,d,turn,fresh,aS,nS,cS,A,L,C,z⟩ w0.heap.size wr aq ad av cv A' C' k):=hCp
 have HB:Hid (Below w0.heap.size w0 wr):=hB
 clear hCp hB
 have cA:=fF kA
 by_cases hlt:k<nS
 ·
  have hlt':(k:Int)<nS:=by omega
  obtain ⟨gs,os,rfl,hcl⟩:=(HRd.out wr HB.out).s k hlt
  dsimp only at hcl
  have HS5:Hid (∀ V,Below w0.heap.size w0 V→V.cell? ⟨w.heap.size,4,none⟩=some (.slice (some ⟨gs,os,none⟩) nS cS)∧V.cell? ⟨gs,os+k,none⟩=some (.slice (A k) (L k) (C k))):=fun V hV=>⟨fF (HkA.out V hV).1 4,by
   obtain ⟨g',o',e,hc⟩:=(HRd.out V hV).s k hlt
   cases e
   exact hc⟩
  have HkBd:Hid (wr.drew.heap[gB]?=some (.cells #[.slice aq nQ cq,.slice ad nD cd,.int .i64 turn,.bool fresh,.slice av k cv] 97 (0,0))):=hkB
  clear kZ hBw hkB
  go_wp2_with fail
  obtain ⟨W,hW⟩:∃ W,W=wr.drew:=⟨_,rfl⟩
  have hBW:Below w0.heap.size w0 W:=by rw [hW];exact HB.out.drew
  have hCW:Cp2 ⟨aQ,nQ,cQ,q,aD,nD,cD,d,turn,fresh,some ⟨gs,os,none⟩,nS,cS,A,L,C,z⟩ w0.heap.size W aq ad av cv A' C' k:=by rw [hW];exact HCp.out.up ((Below.refl _ _).drew)
  have kBW:W.heap[gB]?=some (.cells #[.slice aq nQ cq,.slice ad nD cd,.int .i64 turn,.bool fresh,.slice av k cv] 97 (0,0)):=by rw [hW];exact HkBd.out
  have hE1:=(Below.refl W.heap.size W).alloc (Nat.le_refl _) (.cells #[] 2)
  have hB1:=hBW.trans (hE1.mono hBW.size)
  obtain ⟨a',c',W2,av',cv',W4,r1,r2,hCp4,hB4,hB2,hbox⟩:=hCW.step (show k<1048576 by omega) (HS.out.l k hlt) hBW.size ((HRd.out _ hB1).z k hlt) (C k)
  have hBW2:=hBW.trans (hB2.mono hBW.size)
  have hE3:=(Below.refl W2.heap.size W2).alloc (Nat.le_refl _) (.cells #[.slice a' (L k) c'] 25)
  have hB3:=hBW2.trans (hE3.mono hBW2.size)
  have hBW4:=hBW.trans hB4
  have s0:=HS5.out _ hBW
  have s1:=HS5.out _ hB1
  have s2:=HS5.out _ hBW2
  have s3:=HS5.out _ hB3
  have s4:=HS5.out _ hBW4
  have kB1:=(hE1.block _ (fG kBW)).trans kBW
  have kB2:=(hB2.block _ (fG kBW)).trans kBW
  have kB3:=(hE3.block _ (fG kB2)).trans kB2
  have kB4:=hbox _ _ _ (by decide) kBW
  have b0:W.cell? ⟨gB,4,none⟩=some (.slice av k cv):=fF kBW 4
  have b1:(W.alloc (.cells #[] 2)).cell? ⟨gB,4,none⟩=some (.slice av k cv):=fF kB1 4
  have b2:W2.cell? ⟨gB,4,none⟩=some (.slice av k cv):=fF kB2 4
  have b3:(W2.alloc (.cells #[.slice a' (L k) c'] 25)).cell? ⟨gB,4,none⟩=some (.slice av k cv):=fF kB3 4
  have b4:W4.cell? ⟨gB,4,none⟩=some (.slice av k cv):=fF kB4 4
  have f4:=fZ kB4 4
  have ht:=(Touch.refl [gB] W4).set (g:=gB) (by simp) 4 (.slice av' (k+1) cv')
  have hne:∀ (g:Nat) (arr:Array Value) (t:TypeId),t≠97→W4.heap[g]?=some (.cells arr t (0,0))→(W4.setCell ⟨gB,4,none⟩ (.slice av' (k+1) cv')).heap[g]?=some (.cells arr t (0,0)):=fun g arr t htt hg=>(ht.block g (fG hg) (fun hx=>by
   simp at hx
   subst hx
   rw [kB4] at hg
   simp at hg
   exact htt hg.2.symm)).trans hg
  have hB5:=hBW4.trans (ht.below hBW4.size (fun x hx=>by simp at hx;rw [hx];exact HgB.out))
  have s5:=HS5.out _ hB5
  have HCp5:Hid (Cp2 ⟨aQ,nQ,cQ,q,aD,nD,cD,d,turn,fresh,some ⟨gs,os,none⟩,nS,cS,A,L,C,z⟩ w0.heap.size (W4.setCell ⟨gB,4,none⟩ (.slice av' (k+1) cv')) aq ad av' cv' (fun i=>if i=k then a' else A' i) (fun i=>if i=k then c' else C' i) (k+1)):=hCp4.ow (fun g arr hg=>hne g arr 2 (by decide) hg) (fun g arr hg=>hne g arr _ (by decide) hg)
  have HB5:Hid (Below w0.heap.size w0 (W4.setCell ⟨gB,4,none⟩ (.slice av' (k+1) cv'))):=hB5
  have HkB5:Hid ((W4.setCell ⟨gB,4,none⟩ (.slice av' (k+1) cv')).heap[gB]?=some (.cells #[.slice aq nQ cq,.slice ad nD cd,.int .i64 turn,.bool fresh,.slice av' (k+1) cv'] 97 (0,0))):=gv kB4 _
  dsimp only at r1 r2
  clear hCW hCp4 hB4 hB2 hbox hE1 hB1 hBW2 hE3 hB3 hBW4 kB1 kB2 kB3 ht hne hB5 kBW hBW cA hcl kA
  refine wp_region_held_drew (S:=fun w'=>w'.cell? ⟨w.heap.size,4,none⟩=some (.slice (some ⟨gs,os,none⟩) nS cS)∧w'.cell? ⟨gs,os+k,none⟩=some (.slice (A k) (L k) (C k))) (by kernel_rfl) (by rw [←hW];exact s0) (fun hHeld=>?_)
  rw [←hW] at hHeld ⊢
  clear hW
  refine t0 ?_
  refine tQ 3 28 ?_
  refine tQ 4 29 ?_
  refine tQ 5 30 ?_
  refine tQ 6 31 ?_
  refine tQ 7 32 ?_
  refine rq2 1 2 (fun K hK=>?_) (fun K hK=>?_)
  ·
   go_simp
   refine hK.out _ _ (s0) (fun hHeld=>?_)
   clear hK K
   try simp only [Act.put,PZ]
   refine rq1 2 (fun K hK=>?_)
   exact dp
  go_simp
  refine hK.out _ _ (s1) (fun hHeld=>?_)
  clear hK K
  try simp only [Act.put,PZ]
  refine rq2 1 8 (fun K hK=>?_) (fun K hK=>?_)
  · exact dp
  refine j1 (by kernel_rfl) (some 33) (.tmp 27) (.tmp 32) 25 _ _ _ rfl rfl rfl rfl rfl r1 ?_
  refine hK.out _ _ (s2) (fun hHeld=>?_)
  clear hK K
  try simp only [Act.put,PZ]
  refine rq2 1 9 (fun K hK=>?_) (fun K hK=>?_)
  ·
   go_simp
   exact dw
  go_simp
  refine hK.out _ _ (s3) (fun hHeld=>?_)
  clear hK K
  try simp only [Act.put,PZ]
  refine rq1 1 (fun K hK=>?_)
  exact df
 obtain rfl:k=nS:=by omega
 have cC:=fF hkB
 have cB:=fF kZ
 have fB:=fZ kZ
 have hz:=HSz.out
 have HBw:Hid (Below w.heap.size w wr):=hBw
 have HZz:Hid (w0.heap.size=w.heap.size+1+1):=hz
 clear hz hBw
 go_wp2_with fail
 have ht:=iS wr (w.heap.size+1) (.slice aq nQ cq) (.slice ad nD cd) (.int .i64 turn) (.bool fresh) (.slice av k cv)
 have cF:=fF (kh kZ (.slice aq nQ cq) (.slice ad nD cd) (.int .i64 turn) (.bool fresh) (.slice av k cv))
 have hBf:=HBw.out.trans (ht.below HBw.out.size (fun x hx=>by simp at hx;omega))
 have hOf:=((HCp.out.own cq cd).kO ht (fun x hx=>by simp at hx;have:=HZz.out;omega)).mono (show w.heap.size≤w0.heap.size by have:=HZz.out;omega)
 unfold qJ at cF hBf hOf
 exact bodyPost_ret (v:=.agg (Rnd.cp2 ⟨aQ,nQ,cQ,q,aD,nD,cD,d,turn,fresh,aS,k,cS,A,L,C,z⟩ aq cq ad cd av cv A' C').cells) (by simp [results,Tryz.results97,go_sem,cF,Rnd.cp2,Rnd.cells]) rfl ⟨aq,cq,ad,cd,av,cv,A',C',rfl,hOf,hBf⟩
def mJ (R:Rnd) (c s:Int):Prop:=R.Ok∧(0≤c∧c<R.nQ)∧(1≤s∧s≤5)∧R.L c.toNat<1000
def A4 (R:Rnd) (c s:Int) (ok:Bool):Rnd:=if ok then R.push c.toNat s none 0 else zR
theorem C7 (w:World) (base:Nat):iv w base zR:=⟨Cn _ _,fun i hi=>absurd hi (Nat.not_lt_zero _),fun i hi=>absurd hi (Nat.not_lt_zero _),fun i hi=>absurd hi (Nat.not_lt_zero _),fun i j hi=>absurd hi (Nat.not_lt_zero _)⟩
theorem AL (R:Rnd) (c s:Int) (w:World) (hs:R.Small) (h:jw w R) (ok:Bool) (hok:ok=true↔mJ R c s) :
  Calls Tryz.prog 159 #[.agg R.cells,.int .i64 c,.int .i64 s] w fun e w'=>∃ R',e=.returned (.tuple #[.agg R'.cells,.bool ok])∧iv w' w.heap.size R'∧Below w.heap.size w w'∧Alike (A4 R c s ok) R':=by
 obtain ⟨aQ,nQ,cQ,q,aD,nD,cD,d,turn,fresh,aS,nS,cS,A,L,C,z⟩:=R
 have HR:Hid (jw w ⟨aQ,nQ,cQ,q,aD,nD,cD,d,turn,fresh,aS,nS,cS,A,L,C,z⟩):=h
 have HS:Hid (Rnd.Small ⟨aQ,nQ,cQ,q,aD,nD,cD,d,turn,fresh,aS,nS,cS,A,L,C,z⟩):=hs
 have HO:Hid (ok=true↔mJ ⟨aQ,nQ,cQ,q,aD,nD,cD,d,turn,fresh,aS,nS,cS,A,L,C,z⟩ c s):=hok
 obtain ⟨okR,hokR⟩:=qP (Rnd.Ok ⟨aQ,nQ,cQ,q,aD,nD,cD,d,turn,fresh,aS,nS,cS,A,L,C,z⟩)
 have HOR:Hid (okR=true↔Rnd.Ok ⟨aQ,nQ,cQ,q,aD,nD,cD,d,turn,fresh,aS,nS,cS,A,L,C,z⟩):=hokR
 clear h hs hok hokR
 have HA:Hid (∀ A B,Below w.heap.size w ((w.alloc A).alloc B)):=fun A B=>((Below.refl _ _).alloc (Nat.le_refl _) _).alloc (by simp) _
 dsimp only [Rnd.cells]
 go_enter Tryz.func159,Tryz.ntmps159
 go_wp2_with fail
 refine (jJ ⟨aQ,nQ,cQ,q,aD,nD,cD,d,turn,fresh,aS,nS,cS,A,L,C,z⟩ _ (sI HS.out) (HR.out.up (HA.out _ _)) okR HOR.out).mono ?_
 rintro e w1 ⟨rfl,hb1⟩
 obtain ⟨kA,kB,B1,z1⟩:=oP hb1
 clear hb1 HA
 have cA:=fF kA
 cases okR
 ·
  have HNo:Hid (¬ mJ ⟨aQ,nQ,cQ,q,aD,nD,cD,d,turn,fresh,aS,nS,cS,A,L,C,z⟩ c s):=fun hh=>absurd (HOR.out.2 hh.1) (by simp)
  have hokF:ok=false:=by
   cases ok
   ·
    rfl
   exact absurd (HO.out.1 rfl) HNo.out
  subst hokF
  have cX:=fF kB
  have fX:=fZ kB
  go_wp2_with fail
  have ht:=iS w1 (w.heap.size+1) (.slice none 0 0) (.slice none 0 0) (.int .i64 0) (.bool false) (.slice none 0 0)
  have cF:=fF (kh kB (.slice none 0 0) (.slice none 0 0) (.int .i64 0) (.bool false) (.slice none 0 0))
  have hBf:=B1.trans (ht.below B1.size (fun x hx=>by simp at hx;omega))
  exact du
 have HRok:Hid (Rnd.Ok ⟨aQ,nQ,cQ,q,aD,nD,cD,d,turn,fresh,aS,nS,cS,A,L,C,z⟩):=HOR.out.1 rfl
 go_wp2_with fail
 refine (mz ⟨aQ,nQ,cQ,q,aD,nD,cD,d,turn,fresh,aS,nS,cS,A,L,C,z⟩ c _ (sI HS.out)).mono ?_
 rintro e w2 ⟨rfl,hb2⟩
 replace kA:=(hb2.block _ (fG kA)).trans kA
 replace kB:=(hb2.block _ (fG kB)).trans kB
 have B2:=B1.trans (hb2.mono B1.size)
 have z2:w.heap.size+2≤w2.heap.size:=Nat.le_trans z1 hb2.size
 clear hb2 B1 z1 cA
 have cA:=fF kA
 by_cases hc:0≤c∧c<(nQ:Int)
 rotate_left
 ·
  have HNo:Hid (¬ mJ ⟨aQ,nQ,cQ,q,aD,nD,cD,d,turn,fresh,aS,nS,cS,A,L,C,z⟩ c s):=fun hh=>hc hh.2.1
  rw [decide_eq_false hc]
  clear hc
  exact dh
 rw [decide_eq_true hc]
 obtain ⟨k,rfl⟩:=Int.eq_ofNat_of_zero_le hc.1
 have hkQ:k<nQ:=by omega
 have hSQ:nS=nQ:=HRok.out.s
 have hk:k<nS:=by omega
 have hk':(k:Int)<nS:=by omega
 clear hc hSQ
 go_wp2_with fail
 refine (qg s _).mono ?_
 rintro e w2' ⟨rfl,hw⟩
 rw [hw]
 clear hw w2'
 by_cases hsz:1≤s∧s≤5
 rotate_left
 ·
  have HNo:Hid (¬ mJ ⟨aQ,nQ,cQ,q,aD,nD,cD,d,turn,fresh,aS,nS,cS,A,L,C,z⟩ (k:Int) s):=fun hh=>hsz hh.2.2.1
  rw [decide_eq_false hsz]
  clear hsz
  exact dh
 rw [decide_eq_true hsz]
 have HSz:Hid (1≤s∧s≤5):=hsz
 clear hsz
 have hL1:(L k:Int)≤1048576:=by have:L k≤1048576:=HS.out.l k hk;omega
 obtain ⟨gs,os,rfl,hcl⟩:=(HR.out.s.up B2) k hk
 dsimp only at hcl
 by_cases hL:(L k:Int)<1000
 rotate_left
 ·
  have HNo:Hid (¬ mJ ⟨aQ,nQ,cQ,q,aD,nD,cD,d,turn,fresh,some ⟨gs,os,none⟩,nS,cS,A,L,C,z⟩ (k:Int) s):=fun hh=>hL (by have h7:L (k:Int).toNat<1000:=hh.2.2.2;simp at h7;omega)
  exact dh
 have HOk:Hid (ok=true):=HO.out.2 ⟨HRok.out,⟨by omega,by show (k:Int)<nQ;omega⟩,HSz.out,by show L (k:Int).toNat<1000;simp;omega⟩
 go_wp2_with fail
 refine (jW ⟨aQ,nQ,cQ,q,aD,nD,cD,d,turn,fresh,some ⟨gs,os,none⟩,nS,cS,A,L,C,z⟩ _ HS.out (HR.out.up B2)).mono ?_
 rintro e w3 ⟨aq,cq,ad,cd,gS,A',C',rfl,hZ,hb3⟩
 have kB3:=(hb3.block _ (fG kB)).trans kB
 have B3:=B2.trans (hb3.mono B2.size)
 have z3:w2.heap.size≤w3.heap.size:=hb3.size
 clear hb3 B2 kA kB cA hcl
 have hX:Below w3.heap.size w3 (w3.alloc (.cells #[.slice aq nQ cq,.slice ad nD cd,.int .i64 turn,.bool fresh,.slice (some ⟨gS,0,none⟩) nS nS] 97)).drew:=((Below.refl _ _).alloc (Nat.le_refl _) _).drew
 have kT:=fK w3 (.cells #[.slice aq nQ cq,.slice ad nD cd,.int .i64 turn,.bool fresh,.slice (some ⟨gS,0,none⟩) nS nS] 97)
 have kT4:(w3.alloc (.cells #[.slice aq nQ cq,.slice ad nD cd,.int .i64 turn,.bool fresh,.slice (some ⟨gS,0,none⟩) nS nS] 97)).drew.heap[w3.heap.size]?=_:=kT
 have kB4:=(hX.block _ (fG kB3)).trans kB3
 have hZ4:=hZ.up hX
 have B4:=B3.trans (hX.mono B3.size)
 clear hX kT kB3 hZ B3
 simp only [Rnd.cp,Rnd.cells]
 go_wp2_with fail
 generalize (w3.alloc (.cells #[.slice aq nQ cq,.slice ad nD cd,.int .i64 turn,.bool fresh,.slice (some ⟨gS,0,none⟩) nS nS] 97))=Wx at *
 have hbw:w.heap.size≤w2.heap.size:=by omega
 have hz4:w2.heap.size≤Wx.drew.heap.size:=Nat.le_trans z3 (Nat.le_of_lt (fG kT4))
 obtain ⟨W4,hW4⟩:∃ W4,W4=Wx.drew:=⟨_,rfl⟩
 rw [←hW4] at kT4 kB4 hZ4 B4 hz4
 obtain ⟨a',c',W5,hrun,hP⟩:=hZ4.A7 (c:=k) (gS:=gS) hk (show L k≤1000 by omega) hz4 rfl s
 dsimp only [Rnd.cp] at hrun
 have hrow:w2.heap.size≤gS∧fU gS 25 nS (fun i=>.slice (A' i) (L i) (C' i)) nS W4:=by
  rcases hZ4.own.s with h0 | ⟨g,hg,hbg,hr⟩
  ·
   exact absurd hk (by rw [show nS=0 from h0];omega)
  cases hg
  exact ⟨hbg,hr⟩
 obtain ⟨hgS,hr4⟩:=hrow
 have hAl:=(Below.refl W4.heap.size W4).alloc (Nat.le_refl _) (.cells #[.int .i64 s] 2)
 have rS4:=hr4.at k hk
 have rS4':=(hr4.iB (hAl.block _ hr4.lt)).at k hk
 have hne:w3.heap.size≠gS:=fun e=>by
  obtain ⟨arr,hx,_⟩:=hr4
  rw [←e,kT4] at hx
  simp at hx
 have q0:W4.cell? ⟨w3.heap.size,4,none⟩=some (.slice (some ⟨gS,0,none⟩) nS nS):=fF kT4 4
 have q1:(W4.alloc (.cells #[.int .i64 s] 2)).cell? ⟨w3.heap.size,4,none⟩=some (.slice (some ⟨gS,0,none⟩) nS nS):=fF ((hAl.block _ (fG kT4)).trans kT4) 4
 have kT5:=hP.box _ _ _ (by decide) kT4
 have q2:W5.cell? ⟨w3.heap.size,4,none⟩=some (.slice (some ⟨gS,0,none⟩) nS nS):=fF kT5 4
 have kT6:=(fS (w:=W5) (g:=gS) (i:=k) hne (.slice a' (L k+1) c')).trans kT5
 have q3:(W5.setCell ⟨gS,k,none⟩ (.slice a' (L k+1) c')).cell? ⟨w3.heap.size,4,none⟩=some (.slice (some ⟨gS,0,none⟩) nS nS):=fF kT6 4
 have cS5:=hP.row.at k hk
 have fS5:=hP.row.free k
 dsimp only [Rnd.cp] at cS5 rS4 rS4'
 obtain ⟨W6,hW6⟩:∃ W6,W6=W5.setCell ⟨gS,k,none⟩ (.slice a' (L k+1) c'):=⟨_,rfl⟩
 have HOw:Hid (iv W6 w2.heap.size ((Rnd.cp ⟨aQ,nQ,cQ,q,aD,nD,cD,d,turn,fresh,some ⟨gs,os,none⟩,nS,cS,A,L,C,z⟩ aq cq ad cd gS A' C').push k s a' c')):=by rw [Hid,hW6];exact hP.oz
 have hB6:Below w2.heap.size W4 W6:=by rw [hW6];exact hP.below
 have kB6:=(hB6.block _ (show w.heap.size+1<w2.heap.size by omega)).trans kB4
 have HB6:Hid (Below w.heap.size w W6):=B4.trans (hB6.mono hbw)
 rw [←hW6] at kT6
 have cT6:=fF kT6
 have cB6:=fF kB6
 have fB6:=fZ kB6
 have HAl:Hid (Alike (A4 ⟨aQ,nQ,cQ,q,aD,nD,cD,d,turn,fresh,some ⟨gs,os,none⟩,nS,cS,A,L,C,z⟩ (k:Int) s true) ((Rnd.cp ⟨aQ,nQ,cQ,q,aD,nD,cD,d,turn,fresh,some ⟨gs,os,none⟩,nS,cS,A,L,C,z⟩ aq cq ad cd gS A' C').push k s a' c')):=by
  show Alike (Rnd.push ⟨aQ,nQ,cQ,q,aD,nD,cD,d,turn,fresh,some ⟨gs,os,none⟩,nS,cS,A,L,C,z⟩ (k:Int).toNat s none 0) _
  rw [Int.toNat_natCast]
  exact ⟨rfl,rfl,rfl,rfl,rfl,rfl,rfl,rfl,rfl⟩
 have hokT:=HOk.out
 subst hokT
 have HW6:Hid (W6=W5.setCell ⟨gS,k,none⟩ (.slice a' (L k+1) c')):=hW6
 clear hP hB6 hZ4 hr4 hAl kT5 HO HOk B4 kB4 hW6
 refine wp_region_held_drew (S:=fun w'=>w'.cell? ⟨w3.heap.size,4,none⟩=some (.slice (some ⟨gS,0,none⟩) nS nS)) (by kernel_rfl) (by rw [←hW4];exact q0) (fun hHeld=>?_)
 rw [←hW4] at hHeld ⊢
 clear hW4 kT4
 refine tC 0 35 (v:=?_) ?_ ?_
 rotate_left
 · exact dm
 try simp only [Act.put,PZ]
 refine tC 1 36 (v:=?_) ?_ ?_
 rotate_left
 · exact dm
 try simp only [Act.put,PZ]
 refine tC 2 37 (v:=?_) ?_ ?_
 rotate_left
 · exact dm
 try simp only [Act.put,PZ]
 refine tC 3 38 (v:=?_) ?_ ?_
 rotate_left
 · exact dm
 try simp only [Act.put,PZ]
 refine tC 4 39 (v:=?_) ?_ ?_
 rotate_left
 · exact dm
 try simp only [Act.put,PZ]
 refine tC 5 40 (v:=?_) ?_ ?_
 rotate_left
 · exact dm
 try simp only [Act.put,PZ]
 refine tC 6 41 (v:=?_) ?_ ?_
 rotate_left
 · exact dm
 try simp only [Act.put,PZ]
 refine tC 8 43 (v:=?_) ?_ ?_
 rotate_left
 · exact dm
 try simp only [Act.put,PZ]
 refine rq2 7 9 (fun K hK=>?_) (fun K hK=>?_)
 ·
  go_simp
  refine hK.out _ _ q0 (fun hHeld=>?_)
  clear hK K
  try simp only [Act.put,PZ]
  refine rq1 9 (fun K hK=>?_)
  exact dg
 go_simp
 refine hK.out _ _ q1 (fun hHeld=>?_)
 clear hK K
 try simp only [Act.put,PZ]
 refine rq1 7 (fun K hK=>?_)
 exact dg
end Go.Proofs.YtjaobmbcmjgjgaaGreatDoor
