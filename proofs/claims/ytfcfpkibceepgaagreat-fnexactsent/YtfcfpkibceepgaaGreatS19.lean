import Derived.Test.YtfcfpkibceepgaaGreatS18
namespace Go.Proofs.YtfcfpkibceepgaaGreat
set_option maxRecDepth 100000
open Go.RowKit
set_option linter.unusedVariables false
set_option linter.unusedSimpArgs false
theorem cf {p:Prop} (h:p:=by
 have hHeld:=hS2
 clear hS2
 rename World=>W
 rename Mk2 _ _ _ _ _ _ _ _=>hM
 refine rq1 7 (fun K hK=>?_)
 obtain ⟨ad,cd,W2,hr,hM2⟩:=hM.Dh (a:=aD) cD HS.out.d (HRd.out _ hM.below).d
 have hS2:=HSx.out _ hM2.below
 clear hM hHeld
 refine kx (by kernel_rfl) (some 12) (.tmp 9) (.tmp 11) 25 _ _ _ rfl rfl rfl rfl rfl hr ?_
 clear hr
 refine hK.out _ _ (hS2) (fun hHeld=>?_)
 clear hK K
 try simp only [Act.put,PZ]
 clear hHeld
 have hHeld:=hS2
 clear hS2
 rename World=>W
 rename Mk2 _ _ _ _ _ _ _ _=>hM
 refine jZ (i:=12) (some 17) (v:=?_) rfl rfl (by kernel_rfl) (by kernel_rfl) (by kernel_rfl) (fun _ _ _ h=>absurd h.1 (by simp)) (by kernel_rfl) ?_ (by assumption) ?_
 rotate_left
 · exact cw
 try simp only [Act.put,PZ]
 exact cJ):p:=h
theorem cj {p:Prop} (h:p:=by
 have hHeld:=hS2
 clear hS2
 rename World=>W
 rename Mk2 _ _ _ _ _ _ _ _=>hM
 refine rq2 7 13 (fun K hK=>?_) (fun K hK=>?_)
 ·
  obtain ⟨ad,cd,W2,hr,hM2⟩:=hM.Dh (a:=aD) cD HS.out.d (HRd.out _ hM.below).d
  have hS2:=HSx.out _ hM2.below
  clear hM hHeld
  refine kx (by kernel_rfl) (some 12) (.tmp 9) (.tmp 11) 25 _ _ _ rfl rfl rfl rfl rfl hr ?_
  clear hr
  refine hK.out _ _ (hS2) (fun hHeld=>?_)
  clear hK K
  try simp only [Act.put,PZ]
  clear hHeld
  have hHeld:=hS2
  clear hS2
  rename World=>W
  rename Mk2 _ _ _ _ _ _ _ _=>hM
  refine jZ (i:=12) (some 17) (v:=?_) rfl rfl (by kernel_rfl) (by kernel_rfl) (by kernel_rfl) (fun _ _ _ h=>absurd h.1 (by simp)) (by kernel_rfl) ?_ (by assumption) ?_
  rotate_left
  · exact cw
  try simp only [Act.put,PZ]
  refine rq1 13 (fun K hK=>?_)
  obtain ⟨gB,W2,hg,hW,hM2⟩:=hM.Bq
  have hS2:=HSx.out _ hM2.below
  clear hM hHeld
  go_simp
  refine hK.out _ _ (by rw [←hW];exact hS2) (fun hHeld=>?_)
  clear hK K
  try simp only [Act.put,PZ]
  rw [←hg,←hW]
  clear hg hW hHeld
  have hHeld:=hS2
  clear hS2
  rename World=>W
  rename Mk2 _ _ _ _ _ _ _ _=>hM
  exact cJ
 obtain ⟨gB,W2,hg,hW,hM2⟩:=hM.Bq
 exact cM):p:=h
theorem ck {p:Prop} (h:p:=by
 have hS2:=HSx.out _ hM2.below
 clear hM hHeld
 go_simp
 refine hK.out _ _ (by rw [←hW];exact hS2) (fun hHeld=>?_)
 clear hK K
 try simp only [Act.put,PZ]
 rw [←hg,←hW]
 clear hg hW hHeld
 have hHeld:=hS2
 clear hS2
 rename World=>W
 rename Mk2 _ _ _ _ _ _ _ _=>hM
 refine rq1 3 (fun K hK=>?_)
 obtain ⟨aq,cq,W2,hr,hM2⟩:=hM.C3 (a:=aQ) cQ HS.out.q (HRd.out _ hM.below).q
 have hS2:=HSx.out _ hM2.below
 clear hM hHeld
 refine kx (by kernel_rfl) (some 8) (.tmp 5) (.tmp 7) 25 _ _ _ rfl rfl rfl rfl rfl hr ?_
 clear hr
 refine hK.out _ _ (hS2) (fun hHeld=>?_)
 clear hK K
 try simp only [Act.put,PZ]
 clear hHeld
 exact cf):p:=h
theorem cm {p:Prop} (h:p:=by
 go_simp
 refine hK.out _ _ (s3) (fun hHeld=>?_)
 clear hK K
 try simp only [Act.put,PZ]
 refine rq1 10 (fun K hK=>?_)
 refine kx (by kernel_rfl) (some 35) (.tmp 26) (.tmp 34) 87 _ _ _ rfl rfl rfl rfl rfl r2 ?_
 refine hK.out _ _ (s4) (fun hHeld=>?_)
 clear hK K
 try simp only [Act.put,PZ]
 refine tQ 11 36 ?_
 refine rq1 12 (fun K hK=>?_)
 go_simp
 refine hK.out _ _ (s5) (fun hHeld=>?_)
 clear hK K
 try simp only [Act.put,PZ]
 refine dnq ?_
 clear s0 s1 s2 s3 s4 s5 b0 b1 b2 b3 b4 f4 hHeld
 go_wp2_with fail
 go_roundw
 case rel=>exact ⟨k+1,_,_,av',cv',by omega,by go_num,HCp5.out,HB5.out,HkB5.out⟩
 case measure=>simp [intOf];omega):p:=h
theorem cr {p:Prop} (h:p:=by
 have hS2:=HSx.out _ hM2.below
 clear hM hHeld
 go_simp
 refine hK.out _ _ (by rw [←hW];exact hS2) (fun hHeld=>?_)
 clear hK K
 try simp only [Act.put,PZ]
 rw [←hg,←hW]
 clear hg hW hHeld
 have hHeld:=hS2
 clear hS2
 rename World=>W
 rename Mk2 _ _ _ _ _ _ _ _=>hM
 refine rq2 3 4 (fun K hK=>?_) (fun K hK=>?_)
 ·
  obtain ⟨aq,cq,W2,hr,hM2⟩:=hM.C3 (a:=aQ) cQ HS.out.q (HRd.out _ hM.below).q
  have hS2:=HSx.out _ hM2.below
  clear hM hHeld
  refine kx (by kernel_rfl) (some 8) (.tmp 5) (.tmp 7) 25 _ _ _ rfl rfl rfl rfl rfl hr ?_
  clear hr
  refine hK.out _ _ (hS2) (fun hHeld=>?_)
  clear hK K
  try simp only [Act.put,PZ]
  clear hHeld
  exact cW
 obtain ⟨gE2,W2,hg,hW,hM2⟩:=hM.xl
 exact ck):p:=h
theorem ct {p:Prop} (h:p:=by
 have hS2:=HSx.out _ hM2.below
 clear hM hHeld
 go_simp
 refine hK.out _ _ (by rw [←hW];exact hS2) (fun hHeld=>?_)
 clear hK K
 try simp only [Act.put,PZ]
 rw [←hg,←hW]
 clear hg hW hHeld
 have hHeld:=hS2
 clear hS2
 rename World=>W
 rename Mk2 _ _ _ _ _ _ _ _=>hM
 refine rq2 3 13 (fun K hK=>?_) (fun K hK=>?_)
 ·
  obtain ⟨aq,cq,W2,hr,hM2⟩:=hM.C3 (a:=aQ) cQ HS.out.q (HRd.out _ hM.below).q
  have hS2:=HSx.out _ hM2.below
  clear hM hHeld
  refine kx (by kernel_rfl) (some 8) (.tmp 5) (.tmp 7) 25 _ _ _ rfl rfl rfl rfl rfl hr ?_
  clear hr
  refine hK.out _ _ (hS2) (fun hHeld=>?_)
  clear hK K
  try simp only [Act.put,PZ]
  clear hHeld
  exact cj
 obtain ⟨gB,W2,hg,hW,hM2⟩:=hM.Bq
 exact ck):p:=h
theorem cw {p:Prop} (h:p:=by
 intro wx hSw
 obtain ⟨hS1,hS2,hS3,hS4⟩:=hSw
 go_simp
 try with_reducible rfl):p:=h
theorem cy {p:Prop} (h:p:=by
 have hS2:=HSx.out _ hM2.below
 clear hM hHeld
 go_simp
 refine hK.out _ _ (by rw [←hW];exact hS2) (fun hHeld=>?_)
 clear hK K
 try simp only [Act.put,PZ]
 rw [←hg,←hW]
 clear hg hW hHeld
 have hHeld:=hS2
 clear hS2
 rename World=>W
 rename Mk2 _ _ _ _ _ _ _ _=>hM
 refine rq1 0 (fun K hK=>?_)
 obtain ⟨gE1,W2,hg,hW,hM2⟩:=hM.AL
 exact ck):p:=h
theorem cI {p:Prop} (h:p:=by
 go_simp
 refine hK.out _ _ (s1) (fun hHeld=>?_)
 clear hK K
 try simp only [Act.put,PZ]
 refine rq1 8 (fun K hK=>?_)
 refine kx (by kernel_rfl) (some 33) (.tmp 27) (.tmp 32) 25 _ _ _ rfl rfl rfl rfl rfl r1 ?_
 exact cY):p:=h
theorem cJ {p:Prop} (h:p:=by
 have cB:=fG (hM.b gB rfl).2
 have fB:=fX (hM.b gB rfl).2
 unfold o7 at cB
 have hS5:=HSs.out W gB (.slice aq nQ cq) (.slice ad nD cd) (.int .i64 turn) (.bool fresh) (.slice none 0 0) hM.below (hM.b gB rfl).1
 unfold sZ at hS5
 refine rq1 14 (fun K hK=>?_)
 go_simp
 refine hK.out _ _ (hS5) (fun hHeld=>?_)
 clear hK K
 try simp only [Act.put,PZ]
 refine dnq ?_
 exact ⟨rfl,aq,cq,ad,cd,gB,gE1,gE2,W,hM,rfl,rfl⟩):p:=h
theorem cM {p:Prop} (h:p:=by
 have hS2:=HSx.out _ hM2.below
 clear hM hHeld
 go_simp
 refine hK.out _ _ (by rw [←hW];exact hS2) (fun hHeld=>?_)
 clear hK K
 try simp only [Act.put,PZ]
 rw [←hg,←hW]
 clear hg hW hHeld
 exact cf):p:=h
theorem cW {p:Prop} (h:p:=by
 have hHeld:=hS2
 clear hS2
 rename World=>W
 rename Mk2 _ _ _ _ _ _ _ _=>hM
 refine rq1 4 (fun K hK=>?_)
 obtain ⟨gE2,W2,hg,hW,hM2⟩:=hM.xl
 exact cM):p:=h
theorem cY {p:Prop} (h:p:=by
 refine hK.out _ _ (s2) (fun hHeld=>?_)
 clear hK K
 try simp only [Act.put,PZ]
 refine rq1 9 (fun K hK=>?_)
 exact cm):p:=h
theorem yt {w w1:World} {A B:Obj} (h:Below ((w.alloc A).alloc B).heap.size ((w.alloc A).alloc B) w1) :
  w1.heap[w.heap.size]?=some A∧w1.heap[w.heap.size+1]?=some B∧Below w.heap.size w w1∧w.heap.size+2≤w1.heap.size:=by
 have e1:(w.alloc A).heap.size=w.heap.size+1:=by simp
 have e2:((w.alloc A).alloc B).heap.size=w.heap.size+1+1:=by simp
 rw [e2] at h
 have b1:=fL w A
 have b2:=fL (w.alloc A) B
 rw [e1] at b2
 refine ⟨?_,?_,?_,?_⟩
 ·
  rw [h.block _ (by omega),gg _ (by rw [e1];omega)];exact b1
 ·
  rw [h.block _ (by omega)];exact b2
 ·
  exact (((Below.refl _ _).alloc (Nat.le_refl _) _).alloc (by rw [e1];omega) _).trans (h.mono (by omega))
 have:=h.size
 omega
set_option maxHeartbeats 8000000 in
theorem jV (R:Rnd) (w:World) (hs:R.Small) (h:iY w R) :
  Calls Tryz.prog 99 #[.agg R.cells] w fun e w'=>∃ aq cq ad cd av cv A C,e=.returned (.agg (R.cp2 aq cq ad cd av cv A C).cells)∧jc w' w.heap.size (R.cp2 aq cq ad cd av cv A C)∧Below w.heap.size w w':=by
 obtain ⟨aQ,nQ,cQ,q,aD,nD,cD,d,turn,fresh,aS,nS,cS,A,L,C,z⟩:=R
 have HS:Hid (Rnd.Small ⟨aQ,nQ,cQ,q,aD,nD,cD,d,turn,fresh,aS,nS,cS,A,L,C,z⟩):=hs
 have hB0:Below w.heap.size w ((w.alloc (.cells #[.slice aQ nQ cQ,.slice aD nD cD,.int .i64 turn,.bool fresh,.slice aS nS cS] 100)).alloc (.cells #[.slice none 0 0,.slice none 0 0,.int .i64 0,.bool false,.slice none 0 0] 100)):=((Below.refl _ _).alloc (Nat.le_refl _) _).alloc (by simp) _
 have HRd:Hid (∀ W,Below ((w.alloc (.cells #[.slice aQ nQ cQ,.slice aD nD cD,.int .i64 turn,.bool fresh,.slice aS nS cS] 100)).alloc (.cells #[.slice none 0 0,.slice none 0 0,.int .i64 0,.bool false,.slice none 0 0] 100)).heap.size ((w.alloc (.cells #[.slice aQ nQ cQ,.slice aD nD cD,.int .i64 turn,.bool fresh,.slice aS nS cS] 100)).alloc (.cells #[.slice none 0 0,.slice none 0 0,.int .i64 0,.bool false,.slice none 0 0] 100)) W→iY W ⟨aQ,nQ,cQ,q,aD,nD,cD,d,turn,fresh,aS,nS,cS,A,L,C,z⟩):=fun W hb=>h.up (hB0.trans (hb.mono hB0.size))
 have HSz:Hid (((w.alloc (.cells #[.slice aQ nQ cQ,.slice aD nD cD,.int .i64 turn,.bool fresh,.slice aS nS cS] 100)).alloc (.cells #[.slice none 0 0,.slice none 0 0,.int .i64 0,.bool false,.slice none 0 0] 100)).heap.size=w.heap.size+1+1):=by rw [Hid];simp
 have HkA:Hid (∀ W,Below ((w.alloc (.cells #[.slice aQ nQ cQ,.slice aD nD cD,.int .i64 turn,.bool fresh,.slice aS nS cS] 100)).alloc (.cells #[.slice none 0 0,.slice none 0 0,.int .i64 0,.bool false,.slice none 0 0] 100)).heap.size ((w.alloc (.cells #[.slice aQ nQ cQ,.slice aD nD cD,.int .i64 turn,.bool fresh,.slice aS nS cS] 100)).alloc (.cells #[.slice none 0 0,.slice none 0 0,.int .i64 0,.bool false,.slice none 0 0] 100)) W→W.heap[w.heap.size]?=some (.cells #[.slice aQ nQ cQ,.slice aD nD cD,.int .i64 turn,.bool fresh,.slice aS nS cS] 100 (0,0))∧W.heap[w.heap.size+1]?=some (.cells #[.slice none 0 0,.slice none 0 0,.int .i64 0,.bool false,.slice none 0 0] 100 (0,0))∧Below w.heap.size w W):=fun W hb=>by
  obtain ⟨h1,h2,h3,_⟩:=yt hb
  exact ⟨h1,h2,h3⟩
 have HSx:Hid (∀ W,Below ((w.alloc (.cells #[.slice aQ nQ cQ,.slice aD nD cD,.int .i64 turn,.bool fresh,.slice aS nS cS] 100)).alloc (.cells #[.slice none 0 0,.slice none 0 0,.int .i64 0,.bool false,.slice none 0 0] 100)).heap.size ((w.alloc (.cells #[.slice aQ nQ cQ,.slice aD nD cD,.int .i64 turn,.bool fresh,.slice aS nS cS] 100)).alloc (.cells #[.slice none 0 0,.slice none 0 0,.int .i64 0,.bool false,.slice none 0 0] 100)) W→W.cell? ⟨w.heap.size,0,none⟩=some (.slice aQ nQ cQ)∧W.cell? ⟨w.heap.size,1,none⟩=some (.slice aD nD cD)∧W.cell? ⟨w.heap.size,2,none⟩=some (.int .i64 turn)∧W.cell? ⟨w.heap.size,3,none⟩=some (.bool fresh)):=fun W hb=>by
  have c:=fG (HkA.out W hb).1
  exact ⟨c 0,c 1,c 2,c 3⟩
 have HSs:Hid (∀ (W:World) (g:Nat) (v0 v1 v2 v3 v4:Value),Below ((w.alloc (.cells #[.slice aQ nQ cQ,.slice aD nD cD,.int .i64 turn,.bool fresh,.slice aS nS cS] 100)).alloc (.cells #[.slice none 0 0,.slice none 0 0,.int .i64 0,.bool false,.slice none 0 0] 100)).heap.size ((w.alloc (.cells #[.slice aQ nQ cQ,.slice aD nD cD,.int .i64 turn,.bool fresh,.slice aS nS cS] 100)).alloc (.cells #[.slice none 0 0,.slice none 0 0,.int .i64 0,.bool false,.slice none 0 0] 100)) W→((w.alloc (.cells #[.slice aQ nQ cQ,.slice aD nD cD,.int .i64 turn,.bool fresh,.slice aS nS cS] 100)).alloc (.cells #[.slice none 0 0,.slice none 0 0,.int .i64 0,.bool false,.slice none 0 0] 100)).heap.size≤g→(sZ W g v0 v1 v2 v3 v4).cell? ⟨w.heap.size,0,none⟩=some (.slice aQ nQ cQ)∧(sZ W g v0 v1 v2 v3 v4).cell? ⟨w.heap.size,1,none⟩=some (.slice aD nD cD)∧(sZ W g v0 v1 v2 v3 v4).cell? ⟨w.heap.size,2,none⟩=some (.int .i64 turn)∧(sZ W g v0 v1 v2 v3 v4).cell? ⟨w.heap.size,3,none⟩=some (.bool fresh)):=fun W g v0 v1 v2 v3 v4 hb hg=>by
  have ht:=jU W g v0 v1 v2 v3 v4
  exact HSx.out _ (hb.trans (ht.below hb.size (fun x hx=>by simp at hx;omega)))
 have HR:Hid (iY w ⟨aQ,nQ,cQ,q,aD,nD,cD,d,turn,fresh,aS,nS,cS,A,L,C,z⟩):=h
 have hnS:(nS:Int)≤1048576:=by have:nS≤1048576:=hs.s;omega
 clear hB0 h hs
 dsimp only [Rnd.cells]
 go_enter Tryz.func99,Tryz.ntmps99
 go_wp2_with fail
 refine wp_mono (Q:=fun e a' W=>e=.normal∧∃ (aq:Option Addr) (cq:Nat) (ad:Option Addr) (cd gB gE1 gE2:Nat) (W':World),Mk2 ⟨aQ,nQ,cQ,q,aD,nD,cD,d,turn,fresh,aS,nS,cS,A,L,C,z⟩ ((w.alloc (.cells #[.slice aQ nQ cQ,.slice aD nD cD,.int .i64 turn,.bool fresh,.slice aS nS cS] 100)).alloc (.cells #[.slice none 0 0,.slice none 0 0,.int .i64 0,.bool false,.slice none 0 0] 100)) W' none none (some aq) (some ad) (some gB)∧a'=⟨#[.agg #[.slice aQ nQ cQ,.slice aD nD cD,.int .i64 turn,.bool fresh,.slice aS nS cS],.pointer (some ⟨w.heap.size,0,none⟩),.pointer (some ⟨w.heap.size+1,0,none⟩),.pointer (some ⟨gB,0,none⟩),undef,.slice (some ⟨gE1,0,none⟩) 0 0,.pointer (some ⟨w.heap.size,0,none⟩),.slice aQ nQ cQ,.slice aq nQ cq,.slice (some ⟨gE2,0,none⟩) 0 0,.pointer (some ⟨w.heap.size,1,none⟩),.slice aD nD cD,.slice ad nD cd,.pointer (some ⟨w.heap.size,2,none⟩),.int .i64 turn,.pointer (some ⟨w.heap.size,3,none⟩),.bool fresh,.agg #[.slice aq nQ cq,.slice ad nD cd,.int .i64 turn,.bool fresh,.slice none 0 0],undef,undef,undef,undef,undef,undef,undef,undef,undef,undef,undef,undef,undef,undef,undef,undef,undef,undef,undef,undef],[]⟩∧W=sZ W' gB (.slice aq nQ cq) (.slice ad nD cd) (.int .i64 turn) (.bool fresh) (.slice none 0 0)) ?_ ?_
 ·
  have hM:Mk2 ⟨aQ,nQ,cQ,q,aD,nD,cD,d,turn,fresh,aS,nS,cS,A,L,C,z⟩ ((w.alloc (.cells #[.slice aQ nQ cQ,.slice aD nD cD,.int .i64 turn,.bool fresh,.slice aS nS cS] 100)).alloc (.cells #[.slice none 0 0,.slice none 0 0,.int .i64 0,.bool false,.slice none 0 0] 100)) ((w.alloc (.cells #[.slice aQ nQ cQ,.slice aD nD cD,.int .i64 turn,.bool fresh,.slice aS nS cS] 100)).alloc (.cells #[.slice none 0 0,.slice none 0 0,.int .i64 0,.bool false,.slice none 0 0] 100)).drew none none none none none:=Mk2.start ((Below.refl _ _).drew)
  have hS0:=HSx.out _ hM.below
  refine wp_region_held_drew (S:=fun w'=>w'.cell? ⟨w.heap.size,0,none⟩=some (.slice aQ nQ cQ)∧w'.cell? ⟨w.heap.size,1,none⟩=some (.slice aD nD cD)∧w'.cell? ⟨w.heap.size,2,none⟩=some (.int .i64 turn)∧w'.cell? ⟨w.heap.size,3,none⟩=some (.bool fresh)) (by kernel_rfl) hS0 (fun hHeld=>?_)
  clear hHeld
  have hHeld:=hS0
  clear hS0
  generalize hW:((w.alloc (.cells #[.slice aQ nQ cQ,.slice aD nD cD,.int .i64 turn,.bool fresh,.slice aS nS cS] 100)).alloc (.cells #[.slice none 0 0,.slice none 0 0,.int .i64 0,.bool false,.slice none 0 0] 100)).drew=W at hM hHeld ⊢
  clear hW
  refine jZ (i:=1) (some 6) (v:=?_) rfl rfl (by kernel_rfl) (by kernel_rfl) (by kernel_rfl) (fun _ _ _ h=>absurd h.1 (by simp)) (by kernel_rfl) ?_ (by assumption) ?_
  rotate_left
  · exact cw
  try simp only [Act.put,PZ]
  refine jZ (i:=2) (some 7) (v:=?_) rfl rfl (by kernel_rfl) (by kernel_rfl) (by kernel_rfl) (fun _ _ _ h=>absurd h.1 (by simp)) (by kernel_rfl) ?_ (by assumption) ?_
  rotate_left
  · exact cw
  try simp only [Act.put,PZ]
  refine jZ (i:=5) (some 10) (v:=?_) rfl rfl (by kernel_rfl) (by kernel_rfl) (by kernel_rfl) (fun _ _ _ h=>absurd h.1 (by simp)) (by kernel_rfl) ?_ (by assumption) ?_
  rotate_left
  · exact cw
  try simp only [Act.put,PZ]
  refine jZ (i:=6) (some 11) (v:=?_) rfl rfl (by kernel_rfl) (by kernel_rfl) (by kernel_rfl) (fun _ _ _ h=>absurd h.1 (by simp)) (by kernel_rfl) ?_ (by assumption) ?_
  rotate_left
  · exact cw
  try simp only [Act.put,PZ]
  refine jZ (i:=8) (some 13) (v:=?_) rfl rfl (by kernel_rfl) (by kernel_rfl) (by kernel_rfl) (fun _ _ _ h=>absurd h.1 (by simp)) (by kernel_rfl) ?_ (by assumption) ?_
  rotate_left
  · exact cw
  try simp only [Act.put,PZ]
  refine jZ (i:=9) (some 14) (v:=?_) rfl rfl (by kernel_rfl) (by kernel_rfl) (by kernel_rfl) (fun _ _ _ h=>absurd h.1 (by simp)) (by kernel_rfl) ?_ (by assumption) ?_
  rotate_left
  · exact cw
  try simp only [Act.put,PZ]
  refine jZ (i:=10) (some 15) (v:=?_) rfl rfl (by kernel_rfl) (by kernel_rfl) (by kernel_rfl) (fun _ _ _ h=>absurd h.1 (by simp)) (by kernel_rfl) ?_ (by assumption) ?_
  rotate_left
  · exact cw
  try simp only [Act.put,PZ]
  refine jZ (i:=11) (some 16) (v:=?_) rfl rfl (by kernel_rfl) (by kernel_rfl) (by kernel_rfl) (fun _ _ _ h=>absurd h.1 (by simp)) (by kernel_rfl) ?_ (by assumption) ?_
  rotate_left
  · exact cw
  try simp only [Act.put,PZ]
  refine wpAnyH_ready (rs:=[0,4,13]) (by kernel_rfl) (by simp) ?_
  refine AllReadyH.cons rfl (fun K hK=>?_) (AllReadyH.cons rfl (fun K hK=>?_) (AllReadyH.cons rfl (fun K hK=>?_) AllReadyH.nil))
  ·
   obtain ⟨gE1,W2,hg,hW,hM2⟩:=hM.AL
   have hS2:=HSx.out _ hM2.below
   clear hM hHeld
   go_simp
   refine hK.out _ _ (by rw [←hW];exact hS2) (fun hHeld=>?_)
   clear hK K
   try simp only [Act.put,PZ]
   rw [←hg,←hW]
   clear hg hW hHeld
   have hHeld:=hS2
   clear hS2
   rename World=>W
   rename Mk2 _ _ _ _ _ _ _ _=>hM
   refine wpAnyH_ready (rs:=[3,4,13]) (by kernel_rfl) (by simp) ?_
   refine AllReadyH.cons rfl (fun K hK=>?_) (AllReadyH.cons rfl (fun K hK=>?_) (AllReadyH.cons rfl (fun K hK=>?_) AllReadyH.nil))
   ·
    obtain ⟨aq,cq,W2,hr,hM2⟩:=hM.C3 (a:=aQ) cQ HS.out.q (HRd.out _ hM.below).q
    have hS2:=HSx.out _ hM2.below
    clear hM hHeld
    refine kx (by kernel_rfl) (some 8) (.tmp 5) (.tmp 7) 25 _ _ _ rfl rfl rfl rfl rfl hr ?_
    clear hr
    refine hK.out _ _ (hS2) (fun hHeld=>?_)
    clear hK K
    try simp only [Act.put,PZ]
    clear hHeld
    have hHeld:=hS2
    clear hS2
    rename World=>W
    rename Mk2 _ _ _ _ _ _ _ _=>hM
    refine rq2 4 13 (fun K hK=>?_) (fun K hK=>?_)
    ·
     obtain ⟨gE2,W2,hg,hW,hM2⟩:=hM.xl
     have hS2:=HSx.out _ hM2.below
     clear hM hHeld
     go_simp
     refine hK.out _ _ (by rw [←hW];exact hS2) (fun hHeld=>?_)
     clear hK K
     try simp only [Act.put,PZ]
     rw [←hg,←hW]
     clear hg hW hHeld
     exact cj
    obtain ⟨gB,W2,hg,hW,hM2⟩:=hM.Bq
    have hS2:=HSx.out _ hM2.below
    clear hM hHeld
    go_simp
    refine hK.out _ _ (by rw [←hW];exact hS2) (fun hHeld=>?_)
    clear hK K
    try simp only [Act.put,PZ]
    rw [←hg,←hW]
    clear hg hW hHeld
    exact cW
   ·
    obtain ⟨gE2,W2,hg,hW,hM2⟩:=hM.xl
    exact ct
   obtain ⟨gB,W2,hg,hW,hM2⟩:=hM.Bq
   exact cr
  ·
   obtain ⟨gE2,W2,hg,hW,hM2⟩:=hM.xl
   have hS2:=HSx.out _ hM2.below
   clear hM hHeld
   go_simp
   refine hK.out _ _ (by rw [←hW];exact hS2) (fun hHeld=>?_)
   clear hK K
   try simp only [Act.put,PZ]
   rw [←hg,←hW]
   clear hg hW hHeld
   have hHeld:=hS2
   clear hS2
   rename World=>W
   rename Mk2 _ _ _ _ _ _ _ _=>hM
   refine rq2 0 13 (fun K hK=>?_) (fun K hK=>?_)
   ·
    obtain ⟨gE1,W2,hg,hW,hM2⟩:=hM.AL
    exact ct
   obtain ⟨gB,W2,hg,hW,hM2⟩:=hM.Bq
   exact cy
  obtain ⟨gB,W2,hg,hW,hM2⟩:=hM.Bq
  have hS2:=HSx.out _ hM2.below
  clear hM hHeld
  go_simp
  refine hK.out _ _ (by rw [←hW];exact hS2) (fun hHeld=>?_)
  clear hK K
  try simp only [Act.put,PZ]
  rw [←hg,←hW]
  clear hg hW hHeld
  have hHeld:=hS2
  clear hS2
  rename World=>W
  rename Mk2 _ _ _ _ _ _ _ _=>hM
  refine rq2 0 4 (fun K hK=>?_) (fun K hK=>?_)
  ·
   obtain ⟨gE1,W2,hg,hW,hM2⟩:=hM.AL
   exact cr
  obtain ⟨gE2,W2,hg,hW,hM2⟩:=hM.xl
  exact cy
 rintro e a' W ⟨rfl,aq,cq,ad,cd,gB,gE1,gE2,W',hM,rfl,rfl⟩
 have hb:=hM.b gB rfl
 unfold o7 at hb
 have ht:=jU W' gB (.slice aq nQ cq) (.slice ad nD cd) (.int .i64 turn) (.bool fresh) (.slice none 0 0)
 have kB1:=nf hb.2 (.slice aq nQ cq) (.slice ad nD cd) (.int .i64 turn) (.bool fresh) (.slice none 0 0)
 have k2:∀ (g:Nat) (arr:Array Value),W'.heap[g]?=some (.cells arr 2 (0,0))→(sZ W' gB (.slice aq nQ cq) (.slice ad nD cd) (.int .i64 turn) (.bool fresh) (.slice none 0 0)).heap[g]?=some (.cells arr 2 (0,0)):=fun g arr hg=>(ht.block g (fH hg) (fun hx=>by
  simp at hx
  subst hx
  rw [hb.2] at hg
  simp at hg)).trans hg
 have HCp0:Hid (Cp2 ⟨aQ,nQ,cQ,q,aD,nD,cD,d,turn,fresh,aS,nS,cS,A,L,C,z⟩ ((w.alloc (.cells #[.slice aQ nQ cQ,.slice aD nD cD,.int .i64 turn,.bool fresh,.slice aS nS cS] 100)).alloc (.cells #[.slice none 0 0,.slice none 0 0,.int .i64 0,.bool false,.slice none 0 0] 100)).heap.size (sZ W' gB (.slice aq nQ cq) (.slice ad nD cd) (.int .i64 turn) (.bool fresh) (.slice none 0 0)) aq ad none 0 A C 0):=⟨(hM.q aq rfl).mw k2,(hM.d ad rfl).mw k2,World.ownsRow_nil _ _ _ _,fun i hi=>by omega,hM.qd aq ad rfl rfl,fun i hi=>by omega,fun i hi=>by omega,fun i j hi=>by omega⟩
 have HBl0:Hid (Below ((w.alloc (.cells #[.slice aQ nQ cQ,.slice aD nD cD,.int .i64 turn,.bool fresh,.slice aS nS cS] 100)).alloc (.cells #[.slice none 0 0,.slice none 0 0,.int .i64 0,.bool false,.slice none 0 0] 100)).heap.size ((w.alloc (.cells #[.slice aQ nQ cQ,.slice aD nD cD,.int .i64 turn,.bool fresh,.slice aS nS cS] 100)).alloc (.cells #[.slice none 0 0,.slice none 0 0,.int .i64 0,.bool false,.slice none 0 0] 100)) (sZ W' gB (.slice aq nQ cq) (.slice ad nD cd) (.int .i64 turn) (.bool fresh) (.slice none 0 0))):=hM.below.trans (ht.below hM.below.size (fun x hx=>by simp at hx;omega))
 have HkB0:Hid ((sZ W' gB (.slice aq nQ cq) (.slice ad nD cd) (.int .i64 turn) (.bool fresh) (.slice none 0 0)).heap[gB]?=_):=kB1
 have HgB:Hid (((w.alloc (.cells #[.slice aQ nQ cQ,.slice aD nD cD,.int .i64 turn,.bool fresh,.slice aS nS cS] 100)).alloc (.cells #[.slice none 0 0,.slice none 0 0,.int .i64 0,.bool false,.slice none 0 0] 100)).heap.size≤gB):=hb.1
 clear hM hb ht kB1 k2 HSx HSs
 generalize sZ W' gB (.slice aq nQ cq) (.slice ad nD cd) (.int .i64 turn) (.bool fresh) (.slice none 0 0)=W1 at *
 go_wp2_with fail
 generalize ((w.alloc (.cells #[.slice aQ nQ cQ,.slice aD nD cD,.int .i64 turn,.bool fresh,.slice aS nS cS] 100)).alloc (.cells #[.slice none 0 0,.slice none 0 0,.int .i64 0,.bool false,.slice none 0 0] 100))=w0 at *
 go_loopw [4] (fun i wr=>∃ (k:Nat) (A':Nat→Option Addr) (C':Nat→Nat) (av:Option Addr) (cv:Nat),k≤nS∧i=.int .i64 k∧Cp2 ⟨aQ,nQ,cQ,q,aD,nD,cD,d,turn,fresh,aS,nS,cS,A,L,C,z⟩ w0.heap.size wr aq ad av cv A' C' k∧Below w0.heap.size w0 wr∧wr.heap[gB]?=some (.cells #[.slice aq nQ cq,.slice ad nD cd,.int .i64 turn,.bool fresh,.slice av k cv] 100 (0,0))) (fun i _=>nS-(intOf i).toNat)
 case atStart=>exact ⟨0,A,C,none,0,Nat.zero_le _,rfl,HCp0.out,HBl0.out,HkB0.out⟩
 obtain ⟨k,A',C',av,cv,hk,rfl,hCp,hB,hkB⟩:=hrel
 clear HCp0 HBl0 HkB0
 obtain ⟨kA,kZ,hBw⟩:=HkA.out wr hB
 have HCp:Hid (Cp2 ⟨aQ,nQ,cQ,q,aD,nD,cD,d,turn,fresh,aS,nS,cS,A,L,C,z⟩ w0.heap.size wr aq ad av cv A' C' k):=hCp
 have HB:Hid (Below w0.heap.size w0 wr):=hB
 clear hCp hB
 have cA:=fG kA
 by_cases hlt:k<nS
 ·
  have hlt':(k:Int)<nS:=by omega
  obtain ⟨gs,os,rfl,hcl⟩:=(HRd.out wr HB.out).s k hlt
  dsimp only at hcl
  have HS5:Hid (∀ V,Below w0.heap.size w0 V→V.cell? ⟨w.heap.size,4,none⟩=some (.slice (some ⟨gs,os,none⟩) nS cS)∧V.cell? ⟨gs,os+k,none⟩=some (.slice (A k) (L k) (C k))):=fun V hV=>⟨fG (HkA.out V hV).1 4,by
   obtain ⟨g',o',e,hc⟩:=(HRd.out V hV).s k hlt
   cases e
   exact hc⟩
  have HkBd:Hid (wr.drew.heap[gB]?=some (.cells #[.slice aq nQ cq,.slice ad nD cd,.int .i64 turn,.bool fresh,.slice av k cv] 100 (0,0))):=hkB
  clear kZ hBw hkB
  go_wp2_with fail
  obtain ⟨W,hW⟩:∃ W,W=wr.drew:=⟨_,rfl⟩
  have hBW:Below w0.heap.size w0 W:=by rw [hW];exact HB.out.drew
  have hCW:Cp2 ⟨aQ,nQ,cQ,q,aD,nD,cD,d,turn,fresh,some ⟨gs,os,none⟩,nS,cS,A,L,C,z⟩ w0.heap.size W aq ad av cv A' C' k:=by rw [hW];exact HCp.out.up ((Below.refl _ _).drew)
  have kBW:W.heap[gB]?=some (.cells #[.slice aq nQ cq,.slice ad nD cd,.int .i64 turn,.bool fresh,.slice av k cv] 100 (0,0)):=by rw [hW];exact HkBd.out
  have hE1:=(Below.refl W.heap.size W).alloc (Nat.le_refl _) (.cells #[] 2)
  have hB1:=hBW.trans (hE1.mono hBW.size)
  obtain ⟨a',c',W2,av',cv',W4,r1,r2,hCp4,hB4,hB2,hbox⟩:=hCW.step (show k<1048576 by omega) (HS.out.l k hlt) hBW.size ((HRd.out _ hB1).z k hlt) (C k)
  have hBW2:=hBW.trans (hB2.mono hBW.size)
  have hE3:=(Below.refl W2.heap.size W2).alloc (Nat.le_refl _) (.cells #[.slice a' (L k) c'] 25)
  have hB3:=hBW2.trans (hE3.mono hBW2.size)
  have hBW4:=hBW.trans hB4
  have s0:=HS5.out _ hBW
  have s1:=HS5.out _ hB1
  have s2:=HS5.out _ hBW2
  have s3:=HS5.out _ hB3
  have s4:=HS5.out _ hBW4
  have kB1:=(hE1.block _ (fH kBW)).trans kBW
  have kB2:=(hB2.block _ (fH kBW)).trans kBW
  have kB3:=(hE3.block _ (fH kB2)).trans kB2
  have kB4:=hbox _ _ _ (by decide) kBW
  have b0:W.cell? ⟨gB,4,none⟩=some (.slice av k cv):=fG kBW 4
  have b1:(W.alloc (.cells #[] 2)).cell? ⟨gB,4,none⟩=some (.slice av k cv):=fG kB1 4
  have b2:W2.cell? ⟨gB,4,none⟩=some (.slice av k cv):=fG kB2 4
  have b3:(W2.alloc (.cells #[.slice a' (L k) c'] 25)).cell? ⟨gB,4,none⟩=some (.slice av k cv):=fG kB3 4
  have b4:W4.cell? ⟨gB,4,none⟩=some (.slice av k cv):=fG kB4 4
  have f4:=fX kB4 4
  have ht:=(Touch.refl [gB] W4).set (g:=gB) (by simp) 4 (.slice av' (k+1) cv')
  have hne:∀ (g:Nat) (arr:Array Value) (t:TypeId),t≠100→W4.heap[g]?=some (.cells arr t (0,0))→(W4.setCell ⟨gB,4,none⟩ (.slice av' (k+1) cv')).heap[g]?=some (.cells arr t (0,0)):=fun g arr t htt hg=>(ht.block g (fH hg) (fun hx=>by
   simp at hx
   subst hx
   rw [kB4] at hg
   simp at hg
   exact htt hg.2.symm)).trans hg
  have hB5:=hBW4.trans (ht.below hBW4.size (fun x hx=>by simp at hx;rw [hx];exact HgB.out))
  have s5:=HS5.out _ hB5
  have HCp5:Hid (Cp2 ⟨aQ,nQ,cQ,q,aD,nD,cD,d,turn,fresh,some ⟨gs,os,none⟩,nS,cS,A,L,C,z⟩ w0.heap.size (W4.setCell ⟨gB,4,none⟩ (.slice av' (k+1) cv')) aq ad av' cv' (fun i=>if i=k then a' else A' i) (fun i=>if i=k then c' else C' i) (k+1)):=hCp4.mw (fun g arr hg=>hne g arr 2 (by decide) hg) (fun g arr hg=>hne g arr _ (by decide) hg)
  have HB5:Hid (Below w0.heap.size w0 (W4.setCell ⟨gB,4,none⟩ (.slice av' (k+1) cv'))):=hB5
  have HkB5:Hid ((W4.setCell ⟨gB,4,none⟩ (.slice av' (k+1) cv')).heap[gB]?=some (.cells #[.slice aq nQ cq,.slice ad nD cd,.int .i64 turn,.bool fresh,.slice av' (k+1) cv'] 100 (0,0))):=gj kB4 _
  dsimp only at r1 r2
  clear hCW hCp4 hB4 hB2 hbox hE1 hB1 hBW2 hE3 hB3 hBW4 kB1 kB2 kB3 ht hne hB5 kBW hBW cA hcl kA
  refine wp_region_held_drew (S:=fun w'=>w'.cell? ⟨w.heap.size,4,none⟩=some (.slice (some ⟨gs,os,none⟩) nS cS)∧w'.cell? ⟨gs,os+k,none⟩=some (.slice (A k) (L k) (C k))) (by kernel_rfl) (by rw [←hW];exact s0) (fun hHeld=>?_)
  rw [←hW] at hHeld ⊢
  clear hW
  refine t0 ?_
  refine tQ 3 28 ?_
  refine tQ 4 29 ?_
  refine tQ 5 30 ?_
  refine tQ 6 31 ?_
  refine tQ 7 32 ?_
  refine rq2 1 2 (fun K hK=>?_) (fun K hK=>?_)
  ·
   go_simp
   refine hK.out _ _ (s0) (fun hHeld=>?_)
   clear hK K
   try simp only [Act.put,PZ]
   refine rq1 2 (fun K hK=>?_)
   exact cI
  go_simp
  refine hK.out _ _ (s1) (fun hHeld=>?_)
  clear hK K
  try simp only [Act.put,PZ]
  refine rq2 1 8 (fun K hK=>?_) (fun K hK=>?_)
  · exact cI
  refine kx (by kernel_rfl) (some 33) (.tmp 27) (.tmp 32) 25 _ _ _ rfl rfl rfl rfl rfl r1 ?_
  refine hK.out _ _ (s2) (fun hHeld=>?_)
  clear hK K
  try simp only [Act.put,PZ]
  refine rq2 1 9 (fun K hK=>?_) (fun K hK=>?_)
  ·
   go_simp
   exact cY
  go_simp
  refine hK.out _ _ (s3) (fun hHeld=>?_)
  clear hK K
  try simp only [Act.put,PZ]
  refine rq1 1 (fun K hK=>?_)
  exact cm
 obtain rfl:k=nS:=by omega
 have cC:=fG hkB
 have cB:=fG kZ
 have fB:=fX kZ
 have hz:=HSz.out
 have HBw:Hid (Below w.heap.size w wr):=hBw
 have HZz:Hid (w0.heap.size=w.heap.size+1+1):=hz
 clear hz hBw
 go_wp2_with fail
 have ht:=jU wr (w.heap.size+1) (.slice aq nQ cq) (.slice ad nD cd) (.int .i64 turn) (.bool fresh) (.slice av k cv)
 have cF:=fG (nf kZ (.slice aq nQ cq) (.slice ad nD cd) (.int .i64 turn) (.bool fresh) (.slice av k cv))
 have hBf:=HBw.out.trans (ht.below HBw.out.size (fun x hx=>by simp at hx;omega))
 have hOf:=((HCp.out.own cq cd).iU ht (fun x hx=>by simp at hx;have:=HZz.out;omega)).mono (show w.heap.size≤w0.heap.size by have:=HZz.out;omega)
 unfold sZ at cF hBf hOf
 exact bodyPost_ret (v:=.agg (Rnd.cp2 ⟨aQ,nQ,cQ,q,aD,nD,cD,d,turn,fresh,aS,k,cS,A,L,C,z⟩ aq cq ad cd av cv A' C').cells) (by simp [results,Tryz.results99,go_sem,cF,Rnd.cp2,Rnd.cells]) rfl ⟨aq,cq,ad,cd,av,cv,A',C',rfl,hOf,hBf⟩
theorem tO:(Tryz.prog.info? 100).map (·.size)=some 5:=by kernel_rfl
theorem jS {ops:Array Oper} {rest:List Oper} {o:Oper} {a:Act} {w:World} {Q:Exit→Act→World→Prop} (hg:o.guard=none) (x y:Operand) (ho:o.op=.store 100 x y) (g:Nat) (hx:a.eval x=.pointer (some ⟨g,0,none⟩))
  (cs:Array Value) (hy:a.eval y=.agg cs) (old:Array Value) (hk:w.heap[g]?=some (.cells old 100 (0,0))) (hs:cs.size=5) (ho2:old.size=5) (h1:cs.all (·.oneCell')=true) (h:wpList Tryz.prog ops Q rest (a.put o.dst undef) (w.setRow g cs)):wpList Tryz.prog ops Q (o :: rest) a w :=
 wpList_plain hg fun _ hK=>wp_store_row 100 x y ho g cs hx hy 100 old hk (by rw [hs];exact tO) (by omega) h1 (hK _ _ h)
theorem mS {w:World} {g:Nat} {old cs:Array Value} {t:TypeId} (h:w.heap[g]?=some (.cells old t (0,0))):(w.setRow g cs).heap[g]?=some (.cells cs t (0,0)):=by
 simp [World.setRow,Array.getElem?_modify,h]
theorem iK (w:World) (g:Nat) (cs:Array Value):Touch [g] w (w.setRow g cs):=⟨rfl,rfl,rfl,by simp [World.setRow],fun k _ hn=>by
 have:¬ g=k:=fun e=>hn (by simp [e])
 simp [World.setRow,Array.getElem?_modify,this]⟩
theorem Rnd.la (R:Rnd):R.cells.all (·.oneCell')=true:=by simp [Rnd.cells,Value.oneCell']
structure Rep (wr:World) (base gb gD:Nat) (X cur:Rnd):Prop where
 box:wr.heap[gb]?=some (.cells cur.cells 100 (0,0))
 own:iQ wr base cur
 pQ:Alike X cur
 ad:cur.aD=some ⟨gD,0,none⟩
 cap:∀ i,i<cur.nS→cur.L i≤cur.C i
def BA:Option Value→Bool
 | some (.bool b)=>b
 | _=>false
def rA (n gb gD c0:Nat) (wr:World):Nat :=
 (5-intOf ((wr.cell? ⟨gD,c0,none⟩).getD undef)).toNat*n +
  (if (intOf ((wr.cell? ⟨gb,2,none⟩).getD undef)).toNat=c0 then (if BA (wr.cell? ⟨gb,3,none⟩)=true then 0 else n) else (c0+n-(intOf ((wr.cell? ⟨gb,2,none⟩).getD undef)).toNat) % n)
theorem Rep.left {wr:World} {base gb gD:Nat} {X cur:Rnd} (h:Rep wr base gb gD X cur) {c0:Nat} (hc:c0<X.nQ) (hd:X.nD=X.nQ):rA X.nQ gb gD c0 wr=l9 X c0:=by
 have b:=fG h.box
 have c2:wr.cell? ⟨gb,2,none⟩=some (.int .i64 X.turn):=by rw [b,←h.pQ.t];rfl
 have c3:wr.cell? ⟨gb,3,none⟩=some (.bool X.fresh):=by rw [b,←h.pQ.f];rfl
 have cd:wr.cell? ⟨gD,c0,none⟩=some (.int .i64 (X.d c0)):=by
  obtain ⟨g,o,e,hcell⟩:=h.own.rd.d c0 (by rw [h.pQ.nD,hd];exact hc)
  rw [h.ad] at e
  cases e
  rw [Nat.zero_add] at hcell
  rw [hcell,h.pQ.d]
 unfold rA l9 wX Rnd.now
 rw [c2,c3,cd]
 rfl
theorem Ag {w wi:World} {A B:Array Value} {t s:TypeId} (h:Below (w.heap.size+2) ((w.alloc (.cells A t)).alloc (.cells B s)) wi):(∀ o,wi.cell? ⟨w.heap.size,o,none⟩=A[o]?)∧∀ o,wi.cell? ⟨w.heap.size+1,o,none⟩=B[o]?:=by
 have k1:wi.heap[w.heap.size]?=some (.cells A t (0,0)):=(h.block _ (by omega)).trans ((gg _ (by simp)).trans (fL _ _))
 have k2:wi.heap[w.heap.size+1]?=some (.cells B s (0,0)):=by
  refine (h.block _ (by omega)).trans ?_
  have:=fL (w.alloc (.cells A t)) (.cells B s)
  simpa using this
 exact ⟨fG k1,fG k2⟩
theorem mO {w wi:World} {o o':Obj} (h:Below (w.heap.size+2) ((w.alloc o).alloc o') wi):Below w.heap.size w wi :=
 (((Below.refl _ _).alloc (Nat.le_refl _) o).alloc (by simp) o').trans (h.mono (by omega))
theorem js {w wi:World} {o o':Obj} (h:Below (w.heap.size+2) ((w.alloc o).alloc o') wi):w.heap.size+2≤wi.heap.size:=by
 have:=h.size
 simpa using this
theorem ox {w wi wj:World} {o o':Obj} (h:Below (w.heap.size+2) ((w.alloc o).alloc o') wi) (k:Below wi.heap.size wi wj):Below (w.heap.size+2) ((w.alloc o).alloc o') wj :=
 h.trans (k.mono (js h))
theorem Alike.now {A B:Rnd} (h:Alike A B):B.now=A.now:=by unfold Rnd.now;rw [h.t]
theorem mr {A B:Rnd} (h:Alike A B):Alike (gv A) (gv B):=by
 refine ⟨h.nQ,h.q,h.nD,h.d,?_,rfl,h.nS,h.l,h.z⟩
 show (((B.now+1) % B.nQ:Nat):Int)=(((A.now+1) % A.nQ:Nat):Int)
 rw [h.now,h.nQ]
theorem lI {A B:Rnd} (h:Alike A B):Alike (fS A) (fS B):=by
 unfold fS
 by_cases hf:A.fresh=true
 ·
  rw [if_pos hf,if_pos (by rw [h.f];exact hf)]
  refine ⟨h.nQ,h.q,h.nD,?_,h.t,rfl,h.nS,h.l,h.z⟩
  show nF B.d B.now (B.d B.now+B.q B.now)=nF A.d A.now (A.d A.now+A.q A.now)
  rw [h.now,h.d,h.q]
 rw [if_neg hf,if_neg (by rw [h.f];exact hf)]
 exact h
theorem qJ {A B:Rnd} (h:Alike A B) (x y:Nat→Int) (hx:x=y):Alike { AA A with d:=x } { AA B with d:=y }:=by
 subst hx
 refine ⟨h.nQ,h.q,h.nD,rfl,h.t,h.f,h.nS,?_,?_⟩
 ·
  show jT B.L B.now (B.L B.now-1)=jT A.L A.now (A.L A.now-1)
  rw [h.now,h.l]
 show pS B.z B.now (fun j=>B.z B.now (j+1))=pS A.z A.now (fun j=>A.z A.now (j+1))
 rw [h.now,h.z]
theorem yc {A B:Rnd} (h:Alike A B):Alike (jG A) (jG B):=by
 unfold jG
 by_cases h1:A.L A.now=1
 ·
  rw [if_pos h1,if_pos (by rw [h.now,h.l];exact h1)]
  exact mr (qJ h _ _ (by rw [h.now,h.d]))
 rw [if_neg h1,if_neg (by rw [h.now,h.l];exact h1)]
 exact qJ h (nF A.d A.now (A.d A.now-A.z A.now 0)) (nF B.d B.now (B.d B.now-B.z B.now 0)) (by rw [h.now,h.d,h.z])
theorem iP.pQ {k:Nat} {R R':Rnd} {c:Nat} {s:Int} (h:iP k R R' c s):∀ {B:Rnd},Alike R B→∃ B',iP k B B' c s∧Alike R' B':=by
 induction h with
 | skip h0 _ ih =>
  intro B hB
  obtain ⟨B',hp,ha⟩:=ih (mr hB)
  exact ⟨B',.skip (by rw [hB.now,hB.l];exact h0) hp,ha⟩
 | short h0 h1 _ ih =>
  intro B hB
  obtain ⟨B',hp,ha⟩:=ih (mr (lI hB))
  exact ⟨B',.short (by rw [hB.now,hB.l];exact h0) (by rw [hB.now,(lI hB).d,hB.z];exact h1) hp,ha⟩
 | take h0 h1 =>
  rename_i R0
  intro B hB
  have:=iP.take (R:=B) (by rw [hB.now,hB.l];exact h0) (by rw [hB.now,(lI hB).d,hB.z];exact h1)
  rw [hB.now,hB.z] at this
  exact ⟨_,this,yc (lI hB)⟩
def pP (S:List Nat) (w w':World):Prop:=∀ (g:Nat) (arr:Array Value) (t:TypeId),t=2∨t=25→g∉S→w.heap[g]?=some (.cells arr t (0,0))→w'.heap[g]?=w.heap[g]?
theorem fV.nk {g n k:Nat} {t:TypeId} {f:Nat→Value} {w w':World} {S:List Nat} (h:fV g t n f k w) (hk:pP S w w') (ht:t=2∨t=25) (hg:g∉S):fV g t n f k w':=by
 obtain ⟨arr,h1,h2⟩:=h
 exact fV.ir ⟨arr,h1,h2⟩ (hk g arr t ht hg h1)
theorem VI.nk {w w':World} {base:Nat} {a:Option Addr} {n:Nat} {f:Nat→Int} {S:List Nat} (h:VI w base a n f) (hk:pP S w w') (hg:∀ x∈iS a n,x∉S):VI w' base a n f:=by
 by_cases h0:n=0
 ·
  exact .inl h0
 rcases h with h1 | ⟨g,rfl,hb,hr⟩
 ·
  exact absurd h1 h0
 exact .inr ⟨g,rfl,hb,hr.nk hk (.inl rfl) (hg g (lF h0))⟩
theorem VS.nk {w w':World} {base:Nat} {a:Option Addr} {n:Nat} {F:Nat→Value} {S:List Nat} (h:VS w base a n F) (hk:pP S w w') (hg:∀ x∈iS a n,x∉S):VS w' base a n F:=by
 by_cases h0:n=0
 ·
  exact .inl h0
 rcases h with h1 | ⟨g,rfl,hb,hr⟩
 ·
  exact absurd h1 h0
 exact .inr ⟨g,rfl,hb,hr.nk hk (.inr rfl) (hg g (lF h0))⟩
theorem iQ.nk {w w':World} {base:Nat} {R:Rnd} (h:iQ w base R) (hk:pP [] w w'):iQ w' base R :=
 ⟨h.q.nk hk (fun _ _=>by simp),h.d.nk hk (fun _ _=>by simp),h.s.nk hk (fun _ _=>by simp),fun i hi=>(h.z i hi).nk hk (fun _ _=>by simp),h.qd,h.qz,h.dz,h.zz⟩
theorem pP.yN {w w':World} {g:Nat} {cs:Array Value} (ht:Touch [g] w w') (hg:w.heap[g]?=some (.cells cs 100 (0,0))):pP [] w w':=fun k arr t h1 _ h2=>ht.block k (fH h2) (fun hx=>by
 simp at hx
 subst hx
 rw [hg] at h2
 simp at h2
 rcases h1 with rfl | rfl
 ·
  exact absurd h2.2 (by decide)
 ·
  exact absurd h2.2 (by decide))
theorem Rep.up {w w':World} {base gb gD:Nat} {X:Rnd} (h:Rep w base gb gD X X) (hb:Below w.heap.size w w'):Rep w' base gb gD X X :=
 ⟨(hb.block _ (fH h.box)).trans h.box,h.own.up hb,Alike.refl _,h.ad,h.cap⟩
theorem Rep.turn {w:World} {base gb gD:Nat} {X:Rnd} (h:Rep w base gb gD X X):Rep (w.setRow gb (gv X).cells) base gb gD (gv X) (gv X) :=
 have o:=h.own.nk (pP.yN (iK w gb (gv X).cells) h.box)
 ⟨mS h.box,⟨o.q,o.d,o.s,o.z,o.qd,o.qz,o.dz,o.zz⟩,Alike.refl _,h.ad,h.cap⟩
def Rnd.gw (X:Rnd) (c:Nat) (v:Int):Rnd:={ X with d:=nF X.d c v }
theorem VI.set {w:World} {base g c n:Nat} {f:Nat→Int} (h:VI w base (some ⟨g,0,none⟩) n f) (hc:c<n) (v:Int):VI (w.setCell ⟨g,c,none⟩ (.int .i64 v)) base (some ⟨g,0,none⟩) n (nF f c v):=by
 rcases h with h | ⟨g',e,hb,arr,h1,h2,h3⟩
 ·
  omega
 cases e
 refine .inr ⟨g,rfl,hb,_,gj h1 _,by simpa using h2,fun i hi=>?_⟩
 by_cases e:i=c
 ·
  subst e
  rw [Array.getElem?_setIfInBounds_self_of_lt (by omega)]
  show some (Value.int .i64 v)=some (Value.int .i64 (nF f i v i))
  rw [kI]
 rw [Array.getElem?_setIfInBounds_ne (by omega)]
 show arr[i]?=some (Value.int .i64 (nF f c v i))
 rw [nC e]
 exact h3 i hi
theorem pP.set (w:World) (g c:Nat) (v:Value):pP [g] w (w.setCell ⟨g,c,none⟩ v):=fun k arr t _ hn _=>fO (by
 intro e
 subst e
 exact hn (by simp)) v
theorem Rep.def {w:World} {base gb gD c:Nat} {X:Rnd} (h:Rep w base gb gD X X) (hc:c<X.nD) (v:Int):Rep (w.setCell ⟨gD,c,none⟩ (.int .i64 v)) base gb gD (X.gw c v) (X.gw c v):=by
 have hk:=pP.set w gD c (.int .i64 v)
 have h0:¬ X.nD=0:=by omega
 have hin:gD∈iS X.aD X.nD:=by rw [h.ad];exact lF h0
 have hdv:=h.own.d
 rw [h.ad] at hdv
 have hD:∃ arr,w.heap[gD]?=some (.cells arr 2 (0,0)):=by
  rcases hdv with h1 | ⟨g,e,_,arr,h1,_⟩
  ·
   exact absurd h1 h0
  cases e;exact ⟨arr,h1⟩
 obtain ⟨arr,hD⟩:=hD
 have hnb:¬ gD=gb:=fun e=>by
  subst e
  rw [h.box] at hD
  simp at hD
 have hsv:∀ x∈iS X.aS X.nS,x∉[gD]:=fun x hx hx2=>by
  simp at hx2
  subst hx2
  by_cases h1:X.nS=0
  ·
   unfold iS at hx;rw [if_pos h1] at hx;simp at hx
  rcases h.own.s with h2 | ⟨g,e,_,a2,h2,_⟩
  ·
   exact h1 h2
  rw [e] at hx
  unfold iS at hx
  rw [if_neg h1] at hx
  simp at hx
  subst hx
  rw [hD] at h2
  simp at h2
 have nin:∀ {a:Option Addr} {n:Nat},iI X.aD X.nD a n→∀ x∈iS a n,x∉[gD]:=fun ha x hx hx2=>by
  simp at hx2
  subst hx2
  exact ha _ hin hx
 refine ⟨(fO (fun e=>hnb e.symm) _).trans h.box,⟨h.own.q.nk hk (nin h.own.qd.symm),?_,h.own.s.nk hk hsv,fun i hi=>(h.own.z i hi).nk hk (nin (h.own.dz i hi)),h.own.qd,h.own.qz,h.own.dz,h.own.zz⟩,Alike.refl _,h.ad,h.cap⟩
 show VI _ base X.aD X.nD (nF X.d c v)
 rw [h.ad]
 exact hdv.set hc v
theorem Rep.begun {w:World} {base gb gD:Nat} {X:Rnd} (h:Rep w base gb gD X X):Rep (w.setCell ⟨gb,3,none⟩ (.bool false)) base gb gD { X with fresh:=false } { X with fresh:=false } :=
 have o:=h.own.nk (pP.yN ((Touch.refl [gb] w).set (by simp) 3 (.bool false)) h.box)
 ⟨gj h.box _,⟨o.q,o.d,o.s,o.z,o.qd,o.qz,o.dz,o.zz⟩,Alike.refl _,h.ad,h.cap⟩
theorem iP.yD {k:Nat} {R R':Rnd} {c:Nat} {s:Int} (h:iP k R R' c s) (h0:R.L R.now=0):∃ k2,k=k2+1∧iP k2 (gv R) R' c s:=by
 cases h with
 | skip _ h=>exact ⟨_,rfl,h⟩
 | short h1=>exact absurd h0 h1
 | take h1=>exact absurd h0 h1
theorem iP.wL {k:Nat} {R R':Rnd} {c:Nat} {s:Int} (h:iP k R R' c s) (h0:R.L R.now≠0) (hd:(fS R).d R.now<R.z R.now 0):∃ k2,k=k2+1∧iP k2 (gv (fS R)) R' c s:=by
 cases h with
 | skip h1=>exact absurd h1 h0
 | short _ _ h=>exact ⟨_,rfl,h⟩
 | take _ h1=>exact absurd hd (by omega)
theorem iP.uX {k:Nat} {R R':Rnd} {c:Nat} {s:Int} (h:iP k R R' c s) (h0:R.L R.now≠0) (hd:R.z R.now 0≤(fS R).d R.now):R'=jG (fS R)∧c=R.now∧s=R.z R.now 0:=by
 cases h with
 | skip h1=>exact absurd h1 h0
 | short _ h1 _=>exact absurd hd (by omega)
 | take _ _=>exact ⟨rfl,rfl,rfl⟩
end Go.Proofs.YtfcfpkibceepgaaGreat
