import Derived.Test.YtfcfpkibceepgaaGreatS23
namespace Go.Proofs.YtfcfpkibceepgaaGreat
set_option maxRecDepth 100000
set_option maxHeartbeats 8000000
open Go.RowKit
set_option linter.unusedVariables false
set_option linter.unusedSimpArgs false
theorem dH {p:Prop} (h:p:=by
 rcases List.mem_append.1 hx with hx | hx
 ·
  rw [j3 hx];omega
 exact dL):p:=h
theorem dI {p:Prop} (h:p:=by
 rcases List.mem_append.1 hx with hx | hx
 ·
  rw [j3 hx];omega
 exact dH):p:=h
theorem dJ {p:Prop} (h:p:=by
 obtain ⟨i,hi,hx⟩:=lz.1 hx
 exact OG.type (t:=2) (sz:=1) (h.z i hi) x hx):p:=h
theorem dK {p:Prop} (h:p:=by
 obtain ⟨i,hi,hx⟩:=ib.1 hx
 have:=h2 i hi
 rw [j3 hx];omega):p:=h
theorem dL {p:Prop} (h:p:=by
 obtain ⟨i,hi,hx⟩:=ib.1 hx
 have:=h7 i hi
 rw [j3 hx];omega):p:=h
def flN (C:Cfg) (N:Cnt) (i:Nat):Bool:=!(gJ C (N.u i) (N.p i) == N.p i)
def lW (C:Cfg) (N:Cnt) (i:Nat):Cnt:={ N with p:=fun j=>if j=i then gJ C (N.u j) (N.p j) else N.p j }
theorem xJ (C:Cfg) (N:Cnt) (i:Nat) (w:World) (hU:i<N.nU) (hP:i<N.nP) (hs:N.Small) (h:ja w N) :
  Calls Tryz.prog 56 #[.agg C.cells,.agg N.cells,.int .i64 (i:Int)] w fun e w'=>∃ M:Cnt,e=.returned (.tuple #[.agg M.cells,.bool (flN C N i)])∧gR w' w.heap.size M∧Below w.heap.size w w'∧gx (lW C N i) M:=by
 obtain ⟨aU,nU,cU,u,lo,aP,nP,cP,p⟩:=N
 have hU':i<nU:=hU
 have hP':i<nP:=hP
 obtain ⟨gu,qu,ea,hcU⟩:=rd_some h.u (by show 0<nU;omega)
 obtain ⟨gp,qp,eb,hcP⟩:=rd_some h.p (by show 0<nP;omega)
 dsimp only at ea eb hcU hcP
 subst ea eb
 have hs1:nU≤1048576:=hs.u
 have hs2:nP≤1048576:=hs.p
 have hi1:(i:Int)<nU:=by omega
 have hi2:(i:Int)<nP:=by omega
 have hi3:(nU:Int)≤1048576:=by omega
 have hi4:(nP:Int)≤1048576:=by omega
 have cu0:=hcU i hU'
 have cp0:=hcP i hP'
 have HR:Hid (ja w (⟨some ⟨gu,qu,none⟩,nU,cU,u,lo,some ⟨gp,qp,none⟩,nP,cP,p⟩:Cnt)):=h
 have HS:Hid (Cnt.Small (⟨some ⟨gu,qu,none⟩,nU,cU,u,lo,some ⟨gp,qp,none⟩,nP,cP,p⟩:Cnt)):=hs
 have HB0:Hid (Below (w.heap.size+3) (((w.alloc (.cells #[.int .i64 C.p,.int .i64 C.c,.int .i64 C.xo,.int .i64 C.xn,.int .i64 C.hd,.int .i64 C.lo,.int .i64 C.dl] 34)).alloc (.cells #[.slice (some ⟨gu,qu,none⟩) nU cU,.int .i64 lo,.slice (some ⟨gp,qp,none⟩) nP cP] 36)).alloc (.cells #[.slice none 0 0,.int .i64 0,.slice none 0 0] 36)) (((w.alloc (.cells #[.int .i64 C.p,.int .i64 C.c,.int .i64 C.xo,.int .i64 C.xn,.int .i64 C.hd,.int .i64 C.lo,.int .i64 C.dl] 34)).alloc (.cells #[.slice (some ⟨gu,qu,none⟩) nU cU,.int .i64 lo,.slice (some ⟨gp,qp,none⟩) nP cP] 36)).alloc (.cells #[.slice none 0 0,.int .i64 0,.slice none 0 0] 36))):=Below.refl _ _
 clear hU hP hcU hcP h hs
 unfold flN
 dsimp only
 unfold Cfg.cells
 rw [show Cnt.cells (⟨some ⟨gu,qu,none⟩,nU,cU,u,lo,some ⟨gp,qp,none⟩,nP,cP,p⟩:Cnt)=#[.slice (some ⟨gu,qu,none⟩) nU cU,.int .i64 lo,.slice (some ⟨gp,qp,none⟩) nP cP] from rfl]
 go_enter Tryz.func56,Tryz.ntmps56
 go_wp2_with fail
 refine (mo (⟨some ⟨gu,qu,none⟩,nU,cU,u,lo,some ⟨gp,qp,none⟩,nP,cP,p⟩:Cnt) _ (by show 0<nU;omega) (by show 0<nP;omega) HS.out (HR.out.up (je HB0.out))).mono ?_
 rintro e w1 ⟨M,rfl,hM,hb1,hAM⟩
 have hB:=nY HB0.out hb1
 have HMb:Hid (w.heap.size+3≤(((w.alloc (.cells #[.int .i64 C.p,.int .i64 C.c,.int .i64 C.xo,.int .i64 C.xn,.int .i64 C.hd,.int .i64 C.lo,.int .i64 C.dl] 34)).alloc (.cells #[.slice (some ⟨gu,qu,none⟩) nU cU,.int .i64 lo,.slice (some ⟨gp,qp,none⟩) nP cP] 36)).alloc (.cells #[.slice none 0 0,.int .i64 0,.slice none 0 0] 36)).heap.size):=by rw [Hid];simp
 obtain ⟨aU,nU',mU,u',lo',aP,nP',mP,p'⟩:=M
 obtain ⟨h1,h2,h3,h4,h5⟩:=hAM
 dsimp only at h1 h2 h3 h4 h5
 subst nU'
 subst u'
 subst lo'
 subst nP'
 subst p'
 obtain ⟨hMu,hMp⟩:=hM
 dsimp only at hMu hMp
 rcases hMu with h0 | ⟨gU,rfl,hgU,hrU⟩
 ·
  omega
 rcases hMp with h0 | ⟨gP,rfl,hgP,hrP⟩
 ·
  omega
 have HgU:Hid (w.heap.size+3≤gU):=Nat.le_trans HMb.out hgU
 have HgP:Hid (w.heap.size+3≤gP):=Nat.le_trans HMb.out hgP
 have lU:=hrU.lt
 have lP:=hrP.lt
 have HUP:Hid (gU≠gP):=by
  rintro rfl
  obtain ⟨a1,b1,_⟩:=hrU
  obtain ⟨a2,b2,_⟩:=hrP
  rw [b1] at b2
  simp at b2
 have HPX:Hid (gP<w1.heap.size):=lP
 clear hb1 hgU hgP
 have hA:=(Below.refl w1.heap.size w1).alloc (Nat.le_refl _) (.cells #[.slice (some ⟨gU,0,none⟩) nU mU,.int .i64 lo,.slice (some ⟨gP,0,none⟩) nP mP] 36)
 have kX:=fL w1 (.cells #[.slice (some ⟨gU,0,none⟩) nU mU,.int .i64 lo,.slice (some ⟨gP,0,none⟩) nP mP] 36)
 replace hrU:=hrU.ir (hA.block _ hrU.lt)
 replace hrP:=hrP.ir (hA.block _ hrP.lt)
 replace hB:=nY hB hA
 clear hA lU lP
 dsimp only [Cnt.cells]
 go_wp2_with fail
 generalize w1.alloc (.cells #[.slice (some ⟨gU,0,none⟩) nU mU,.int .i64 lo,.slice (some ⟨gP,0,none⟩) nP mP] 36)=w2 at *
 obtain ⟨kC,kN,kR⟩:=jJ hB
 have B2:=je hB
 have cb:=fG kC
 have cn:=fG kN
 have cX:=fG kX
 have cu:=(B2.cell (p:=⟨gu,qu+i,none⟩) (iu cu0)).trans cu0
 have cp:=(B2.cell (p:=⟨gp,qp+i,none⟩) (iu cp0)).trans cp0
 have HNP:Hid (gp≠gP):=by show gp≠gP;have:=iu cp0;have:=HgP.out;simp at *;omega
 have HB2:Hid (Below w.heap.size w w2):=B2
 clear hB cu0 cp0 B2
 by_cases hpi:p i=true
 ·
  rw [hpi] at cp
  by_cases hc:u i≤C.xn
  ·
   have hc':decide (u i≤C.xn)=true:=decide_eq_true hc
   have HV:Hid (gJ C (u i) true=false):=by rw [Hid];simp [gJ];omega
   refine wp_region_held_drew (S:=fun w'=>(∀ o,w'.cell? ⟨w.heap.size,o,none⟩=(#[.int .i64 C.p,.int .i64 C.c,.int .i64 C.xo,.int .i64 C.xn,.int .i64 C.hd,.int .i64 C.lo,.int .i64 C.dl]:Array Value)[o]?)∧(∀ o,w'.cell? ⟨w.heap.size+1,o,none⟩=(#[.slice (some ⟨gu,qu,none⟩) nU cU,.int .i64 lo,.slice (some ⟨gp,qp,none⟩) nP cP]:Array Value)[o]?)∧w'.cell? ⟨gu,qu+i,none⟩=some (.int .i64 (u i))∧w'.cell? ⟨gp,qp+i,none⟩=some (.bool true)) (by kernel_rfl) ⟨cb,cn,cu,cp⟩ (fun hHeld=>?_)
   refine t0 ?_
   iterate 6 refine tN ?_
   iterate 8 refine sN ?_
   iterate 18 refine tN ?_
   refine dnq ?_
   clear hHeld
   have cn2:∀ o,w2.drew.cell? ⟨w.heap.size+1,o,none⟩=(#[.slice (some ⟨gu,qu,none⟩) nU cU,.int .i64 lo,.slice (some ⟨gp,qp,none⟩) nP cP]:Array Value)[o]?:=cn
   have cX2:∀ o,w2.drew.cell? ⟨w1.heap.size,o,none⟩=(#[.slice (some ⟨gU,0,none⟩) nU mU,.int .i64 lo,.slice (some ⟨gP,0,none⟩) nP mP]:Array Value)[o]?:=cX
   have cp2:w2.drew.cell? ⟨gp,qp+i,none⟩=some (.bool true):=cp
   have rPd:fV gP 4 nP (fun i=>.bool (p i)) nP w2.drew:=hrP.ir rfl
   have rUd:fV gU 2 nU (fun i=>.int .i64 (u i)) nU w2.drew:=hrU.ir rfl
   have kRd:w2.drew.heap[w.heap.size+1+1]?=some (.cells #[.slice none 0 0,.int .i64 0,.slice none 0 0] 36 (0,0)):=kR
   have kNd:w2.drew.heap[w.heap.size+1]?=some (.cells #[.slice (some ⟨gu,qu,none⟩) nU cU,.int .i64 lo,.slice (some ⟨gp,qp,none⟩) nP cP] 36 (0,0)):=kN
   have kXd:w2.drew.heap[w1.heap.size]?=some (.cells #[.slice (some ⟨gU,0,none⟩) nU mU,.int .i64 lo,.slice (some ⟨gP,0,none⟩) nP mP] 36 (0,0)):=kX
   have HBd:Hid (Below w.heap.size w w2.drew):=HB2.out.drew
   clear kC kN kR kX hrU hrP cb cn cu cp cX HB2
   generalize w2.drew=wd at *
   go_wp2_with fail
   have hd:Touch [] wd wd.drew:=⟨rfl,rfl,rfl,Nat.le_refl _,fun _ _ _=>rfl⟩
   have cn2:∀ o,wd.drew.cell? ⟨w.heap.size+1,o,none⟩=(#[.slice (some ⟨gu,qu,none⟩) nU cU,.int .i64 lo,.slice (some ⟨gp,qp,none⟩) nP cP]:Array Value)[o]?:=cn2
   have cX2:∀ o,wd.drew.cell? ⟨w1.heap.size,o,none⟩=(#[.slice (some ⟨gU,0,none⟩) nU mU,.int .i64 lo,.slice (some ⟨gP,0,none⟩) nP mP]:Array Value)[o]?:=cX2
   have cp2:wd.drew.cell? ⟨gp,qp+i,none⟩=some (.bool true):=cp2
   obtain ⟨v0,hv0⟩:=rPd.there i hP'
   have f0:=rPd.free i
   have hp9:=HgP.out
   have hx9:=HPX.out
   have hn9:=HNP.out
   have cn3:∀ o,(wd.setCell ⟨gP,i,none⟩ (.bool false)).drew.cell? ⟨w.heap.size+1,o,none⟩=(#[.slice (some ⟨gu,qu,none⟩) nU cU,.int .i64 lo,.slice (some ⟨gp,qp,none⟩) nP cP]:Array Value)[o]?:=fG ((fO (w:=wd) (i:=i) (show w.heap.size+1≠gP by omega) (.bool false)).trans kNd)
   have cX3:∀ o,(wd.setCell ⟨gP,i,none⟩ (.bool false)).drew.cell? ⟨w1.heap.size,o,none⟩=(#[.slice (some ⟨gU,0,none⟩) nU mU,.int .i64 lo,.slice (some ⟨gP,0,none⟩) nP mP]:Array Value)[o]?:=fG ((fO (w:=wd) (i:=i) (show w1.heap.size≠gP by omega) (.bool false)).trans kXd)
   have cp3:(wd.setCell ⟨gP,i,none⟩ (.bool false)).drew.cell? ⟨gp,qp+i,none⟩=some (.bool true):=(World.cell?_of_block (w:=wd) (a:=⟨gp,qp+i,none⟩) (fO (w:=wd) (i:=i) hn9 (.bool false))).trans cp2
   refine wp_region_held_drew (S:=fun w'=>(∀ o,w'.cell? ⟨w.heap.size+1,o,none⟩=(#[.slice (some ⟨gu,qu,none⟩) nU cU,.int .i64 lo,.slice (some ⟨gp,qp,none⟩) nP cP]:Array Value)[o]?)∧(∀ o,w'.cell? ⟨w1.heap.size,o,none⟩=(#[.slice (some ⟨gU,0,none⟩) nU mU,.int .i64 lo,.slice (some ⟨gP,0,none⟩) nP mP]:Array Value)[o]?)∧w'.cell? ⟨gp,qp+i,none⟩=some (.bool true)) (by kernel_rfl) ⟨cn2,cX2,cp2⟩ (fun hHeld=>?_)
   refine t0 ?_
   iterate 9 refine tN ?_
   refine rq1 10 (fun K hK=>?_)
   go_simp
   refine hK.out _ _ ⟨cn3,cX3,cp3⟩ (fun hHeld=>?_)
   clear hK K
   try simp only [Act.put,PZ]
   refine dnq ?_
   clear hHeld cn2 cX2 cp2 cn3 cp3 hv0 f0
   have kRs:(wd.setCell ⟨gP,i,none⟩ (.bool false)).drew.heap[w.heap.size+1+1]?=some (.cells #[.slice none 0 0,.int .i64 0,.slice none 0 0] 36 (0,0)):=(fO (w:=wd) (i:=i) (show w.heap.size+1+1≠gP by omega) (.bool false)).trans kRd
   have rPs:fV gP 4 nP (fun j=>.bool (if j=i then gJ C (u j) (p j) else p j)) nP (wd.setCell ⟨gP,i,none⟩ (.bool false)).drew:=((rPd.sP i (.bool false) hP').yk (fun j _=>by
    by_cases e:j=i
    ·
     subst e
     rw [if_pos rfl,if_pos rfl,hpi,HV.out]
    ·
     rw [if_neg e,if_neg e])).ir rfl
   have rUs:fV gU 2 nU (fun i=>.int .i64 (u i)) nU (wd.setCell ⟨gP,i,none⟩ (.bool false)).drew:=rUd.ir (fO (w:=wd) (i:=i) (fun e=>HUP.out e) (.bool false))
   have HBs:Hid (Below w.heap.size w (wd.setCell ⟨gP,i,none⟩ (.bool false)).drew):=(HBd.out.setCell (by show w.heap.size≤gP;omega) _).drew
   clear kRd kNd kXd rPd rUd hd hp9 hx9 hn9
   generalize (wd.setCell ⟨gP,i,none⟩ (.bool false)).drew=we at *
   have ht:=ia we (w.heap.size+1+1) (.slice (some ⟨gU,0,none⟩) nU mU) (.int .i64 lo) (.slice (some ⟨gP,0,none⟩) nP mP)
   have hO:gR we w.heap.size ⟨some ⟨gU,0,none⟩,nU,mU,u,lo,some ⟨gP,0,none⟩,nP,mP,fun j=>if j=i then gJ C (u j) (p j) else p j⟩:=⟨VT.of (by have:=HgU.out;omega) rUs,VT.of (by have:=HgP.out;omega) rPs⟩
   have HO:Hid (gR (j6 we (w.heap.size+1+1) (.slice (some ⟨gU,0,none⟩) nU mU) (.int .i64 lo) (.slice (some ⟨gP,0,none⟩) nP mP)) w.heap.size ⟨some ⟨gU,0,none⟩,nU,mU,u,lo,some ⟨gP,0,none⟩,nP,mP,fun j=>if j=i then gJ C (u j) (p j) else p j⟩):=kJ hO kRs
   have HB:Hid (Below w.heap.size w (j6 we (w.heap.size+1+1) (.slice (some ⟨gU,0,none⟩) nU mU) (.int .i64 lo) (.slice (some ⟨gP,0,none⟩) nP mP))):=HBs.out.trans (ht.below HBs.out.size (fun x hx=>by have:=List.mem_singleton.1 hx;omega))
   have cB:=fG (iG kRs (.slice (some ⟨gU,0,none⟩) nU mU) (.int .i64 lo) (.slice (some ⟨gP,0,none⟩) nP mP))
   have cR:=fG kRs
   have fR:=fX kRs
   clear ht hO kRs rPs rUs
   unfold j6 at cB
   go_wp2_with fail
   exact bodyPost_ret (v:=.tuple #[.agg #[.slice (some ⟨gU,0,none⟩) nU mU,.int .i64 lo,.slice (some ⟨gP,0,none⟩) nP mP],.bool true]) (by simp [results,Tryz.results56,go_sem,cB]) rfl ⟨⟨some ⟨gU,0,none⟩,nU,mU,u,lo,some ⟨gP,0,none⟩,nP,mP,fun j=>if j=i then gJ C (u j) (p j) else p j⟩,by first | (rw [hpi,HV.out];rfl) | (rw [HV.out];rfl) | rfl | simp [Cnt.cells],HO.out,HB.out,⟨rfl,rfl,rfl,rfl,rfl⟩⟩
  have hc':decide (u i≤C.xn)=false:=decide_eq_false hc
  have HV:Hid (gJ C (u i) true=true):=by rw [Hid];simp [gJ];omega
  refine wp_region_held_drew (S:=fun w'=>(∀ o,w'.cell? ⟨w.heap.size,o,none⟩=(#[.int .i64 C.p,.int .i64 C.c,.int .i64 C.xo,.int .i64 C.xn,.int .i64 C.hd,.int .i64 C.lo,.int .i64 C.dl]:Array Value)[o]?)∧(∀ o,w'.cell? ⟨w.heap.size+1,o,none⟩=(#[.slice (some ⟨gu,qu,none⟩) nU cU,.int .i64 lo,.slice (some ⟨gp,qp,none⟩) nP cP]:Array Value)[o]?)∧w'.cell? ⟨gu,qu+i,none⟩=some (.int .i64 (u i))∧w'.cell? ⟨gp,qp+i,none⟩=some (.bool true)) (by kernel_rfl) ⟨cb,cn,cu,cp⟩ (fun hHeld=>?_)
  refine t0 ?_
  iterate 6 refine tN ?_
  iterate 8 refine sN ?_
  iterate 18 refine tN ?_
  refine dnq ?_
  clear hHeld
  have ht:=ia w2.drew (w.heap.size+1+1) (.slice (some ⟨gU,0,none⟩) nU mU) (.int .i64 lo) (.slice (some ⟨gP,0,none⟩) nP mP)
  have kRd:w2.drew.heap[w.heap.size+1+1]?=some (.cells #[.slice none 0 0,.int .i64 0,.slice none 0 0] 36 (0,0)):=kR
  have hO:gR w2.drew w.heap.size ⟨some ⟨gU,0,none⟩,nU,mU,u,lo,some ⟨gP,0,none⟩,nP,mP,fun j=>if j=i then gJ C (u j) (p j) else p j⟩:=⟨VT.of (by have:=HgU.out;omega) (hrU.ir (w':=w2.drew) rfl),VT.of (by have:=HgP.out;omega) ((hrP.ir (w':=w2.drew) rfl).yk (fun j _=>by
   show Value.bool (p j)=Value.bool (if j=i then gJ C (u j) (p j) else p j)
   by_cases e:j=i
   ·
    subst e
    rw [if_pos rfl,hpi,HV.out]
   ·
    rw [if_neg e]))⟩
  have HO:Hid (gR (j6 w2.drew (w.heap.size+1+1) (.slice (some ⟨gU,0,none⟩) nU mU) (.int .i64 lo) (.slice (some ⟨gP,0,none⟩) nP mP)) w.heap.size ⟨some ⟨gU,0,none⟩,nU,mU,u,lo,some ⟨gP,0,none⟩,nP,mP,fun j=>if j=i then gJ C (u j) (p j) else p j⟩):=kJ hO kRd
  have HB:Hid (Below w.heap.size w (j6 w2.drew (w.heap.size+1+1) (.slice (some ⟨gU,0,none⟩) nU mU) (.int .i64 lo) (.slice (some ⟨gP,0,none⟩) nP mP))):=HB2.out.drew.trans (ht.below HB2.out.drew.size (fun x hx=>by have:=List.mem_singleton.1 hx;omega))
  have cB:=fG (iG kRd (.slice (some ⟨gU,0,none⟩) nU mU) (.int .i64 lo) (.slice (some ⟨gP,0,none⟩) nP mP))
  have cR:=fG kRd
  have fR:=fX kRd
  have cXd:∀ o,w2.drew.cell? ⟨w1.heap.size,o,none⟩=(#[.slice (some ⟨gU,0,none⟩) nU mU,.int .i64 lo,.slice (some ⟨gP,0,none⟩) nP mP]:Array Value)[o]?:=cX
  clear ht hO kRd kR kC kN kX hrU hrP cb cn cu cp cX
  unfold j6 at cB
  generalize w2.drew=wd at *
  go_wp2_with fail
  exact bodyPost_ret (v:=.tuple #[.agg #[.slice (some ⟨gU,0,none⟩) nU mU,.int .i64 lo,.slice (some ⟨gP,0,none⟩) nP mP],.bool false]) (by simp [results,Tryz.results56,go_sem,cB]) rfl ⟨⟨some ⟨gU,0,none⟩,nU,mU,u,lo,some ⟨gP,0,none⟩,nP,mP,fun j=>if j=i then gJ C (u j) (p j) else p j⟩,by first | (rw [hpi,HV.out];rfl) | (rw [HV.out];rfl) | rfl | simp [Cnt.cells],HO.out,HB.out,⟨rfl,rfl,rfl,rfl,rfl⟩⟩
 have hpf:p i=false:=by simpa using hpi
 rw [hpf] at cp
 by_cases hc:C.xo≤u i
 ·
  have hc':decide (C.xo≤u i)=true:=decide_eq_true hc
  have HV:Hid (gJ C (u i) false=true):=by rw [Hid];simp [gJ];omega
  refine wp_region_held_drew (S:=fun w'=>(∀ o,w'.cell? ⟨w.heap.size,o,none⟩=(#[.int .i64 C.p,.int .i64 C.c,.int .i64 C.xo,.int .i64 C.xn,.int .i64 C.hd,.int .i64 C.lo,.int .i64 C.dl]:Array Value)[o]?)∧(∀ o,w'.cell? ⟨w.heap.size+1,o,none⟩=(#[.slice (some ⟨gu,qu,none⟩) nU cU,.int .i64 lo,.slice (some ⟨gp,qp,none⟩) nP cP]:Array Value)[o]?)∧w'.cell? ⟨gu,qu+i,none⟩=some (.int .i64 (u i))∧w'.cell? ⟨gp,qp+i,none⟩=some (.bool false)) (by kernel_rfl) ⟨cb,cn,cu,cp⟩ (fun hHeld=>?_)
  refine t0 ?_
  iterate 16 refine tN ?_
  iterate 15 refine sN ?_
  refine tN ?_
  refine dnq ?_
  clear hHeld
  have cn2:∀ o,w2.drew.cell? ⟨w.heap.size+1,o,none⟩=(#[.slice (some ⟨gu,qu,none⟩) nU cU,.int .i64 lo,.slice (some ⟨gp,qp,none⟩) nP cP]:Array Value)[o]?:=cn
  have cX2:∀ o,w2.drew.cell? ⟨w1.heap.size,o,none⟩=(#[.slice (some ⟨gU,0,none⟩) nU mU,.int .i64 lo,.slice (some ⟨gP,0,none⟩) nP mP]:Array Value)[o]?:=cX
  have cp2:w2.drew.cell? ⟨gp,qp+i,none⟩=some (.bool false):=cp
  have rPd:fV gP 4 nP (fun i=>.bool (p i)) nP w2.drew:=hrP.ir rfl
  have rUd:fV gU 2 nU (fun i=>.int .i64 (u i)) nU w2.drew:=hrU.ir rfl
  have kRd:w2.drew.heap[w.heap.size+1+1]?=some (.cells #[.slice none 0 0,.int .i64 0,.slice none 0 0] 36 (0,0)):=kR
  have kNd:w2.drew.heap[w.heap.size+1]?=some (.cells #[.slice (some ⟨gu,qu,none⟩) nU cU,.int .i64 lo,.slice (some ⟨gp,qp,none⟩) nP cP] 36 (0,0)):=kN
  have kXd:w2.drew.heap[w1.heap.size]?=some (.cells #[.slice (some ⟨gU,0,none⟩) nU mU,.int .i64 lo,.slice (some ⟨gP,0,none⟩) nP mP] 36 (0,0)):=kX
  have HBd:Hid (Below w.heap.size w w2.drew):=HB2.out.drew
  clear kC kN kR kX hrU hrP cb cn cu cp cX HB2
  generalize w2.drew=wd at *
  go_wp2_with fail
  have hd:Touch [] wd wd.drew:=⟨rfl,rfl,rfl,Nat.le_refl _,fun _ _ _=>rfl⟩
  have cn2:∀ o,wd.drew.cell? ⟨w.heap.size+1,o,none⟩=(#[.slice (some ⟨gu,qu,none⟩) nU cU,.int .i64 lo,.slice (some ⟨gp,qp,none⟩) nP cP]:Array Value)[o]?:=cn2
  have cX2:∀ o,wd.drew.cell? ⟨w1.heap.size,o,none⟩=(#[.slice (some ⟨gU,0,none⟩) nU mU,.int .i64 lo,.slice (some ⟨gP,0,none⟩) nP mP]:Array Value)[o]?:=cX2
  have cp2:wd.drew.cell? ⟨gp,qp+i,none⟩=some (.bool false):=cp2
  obtain ⟨v0,hv0⟩:=rPd.there i hP'
  have f0:=rPd.free i
  have hp9:=HgP.out
  have hx9:=HPX.out
  have hn9:=HNP.out
  have cn3:∀ o,(wd.setCell ⟨gP,i,none⟩ (.bool true)).drew.cell? ⟨w.heap.size+1,o,none⟩=(#[.slice (some ⟨gu,qu,none⟩) nU cU,.int .i64 lo,.slice (some ⟨gp,qp,none⟩) nP cP]:Array Value)[o]?:=fG ((fO (w:=wd) (i:=i) (show w.heap.size+1≠gP by omega) (.bool true)).trans kNd)
  have cX3:∀ o,(wd.setCell ⟨gP,i,none⟩ (.bool true)).drew.cell? ⟨w1.heap.size,o,none⟩=(#[.slice (some ⟨gU,0,none⟩) nU mU,.int .i64 lo,.slice (some ⟨gP,0,none⟩) nP mP]:Array Value)[o]?:=fG ((fO (w:=wd) (i:=i) (show w1.heap.size≠gP by omega) (.bool true)).trans kXd)
  have cp3:(wd.setCell ⟨gP,i,none⟩ (.bool true)).drew.cell? ⟨gp,qp+i,none⟩=some (.bool false):=(World.cell?_of_block (w:=wd) (a:=⟨gp,qp+i,none⟩) (fO (w:=wd) (i:=i) hn9 (.bool true))).trans cp2
  refine wp_region_held_drew (S:=fun w'=>(∀ o,w'.cell? ⟨w.heap.size+1,o,none⟩=(#[.slice (some ⟨gu,qu,none⟩) nU cU,.int .i64 lo,.slice (some ⟨gp,qp,none⟩) nP cP]:Array Value)[o]?)∧(∀ o,w'.cell? ⟨w1.heap.size,o,none⟩=(#[.slice (some ⟨gU,0,none⟩) nU mU,.int .i64 lo,.slice (some ⟨gP,0,none⟩) nP mP]:Array Value)[o]?)∧w'.cell? ⟨gp,qp+i,none⟩=some (.bool false)) (by kernel_rfl) ⟨cn2,cX2,cp2⟩ (fun hHeld=>?_)
  refine t0 ?_
  iterate 9 refine tN ?_
  refine rq1 10 (fun K hK=>?_)
  go_simp
  refine hK.out _ _ ⟨cn3,cX3,cp3⟩ (fun hHeld=>?_)
  clear hK K
  try simp only [Act.put,PZ]
  refine dnq ?_
  clear hHeld cn2 cX2 cp2 cn3 cp3 hv0 f0
  have kRs:(wd.setCell ⟨gP,i,none⟩ (.bool true)).drew.heap[w.heap.size+1+1]?=some (.cells #[.slice none 0 0,.int .i64 0,.slice none 0 0] 36 (0,0)):=(fO (w:=wd) (i:=i) (show w.heap.size+1+1≠gP by omega) (.bool true)).trans kRd
  have rPs:fV gP 4 nP (fun j=>.bool (if j=i then gJ C (u j) (p j) else p j)) nP (wd.setCell ⟨gP,i,none⟩ (.bool true)).drew:=((rPd.sP i (.bool true) hP').yk (fun j _=>by
   by_cases e:j=i
   ·
    subst e
    rw [if_pos rfl,if_pos rfl,hpf,HV.out]
   ·
    rw [if_neg e,if_neg e])).ir rfl
  have rUs:fV gU 2 nU (fun i=>.int .i64 (u i)) nU (wd.setCell ⟨gP,i,none⟩ (.bool true)).drew:=rUd.ir (fO (w:=wd) (i:=i) (fun e=>HUP.out e) (.bool true))
  have HBs:Hid (Below w.heap.size w (wd.setCell ⟨gP,i,none⟩ (.bool true)).drew):=(HBd.out.setCell (by show w.heap.size≤gP;omega) _).drew
  clear kRd kNd kXd rPd rUd hd hp9 hx9 hn9
  generalize (wd.setCell ⟨gP,i,none⟩ (.bool true)).drew=we at *
  have ht:=ia we (w.heap.size+1+1) (.slice (some ⟨gU,0,none⟩) nU mU) (.int .i64 lo) (.slice (some ⟨gP,0,none⟩) nP mP)
  have hO:gR we w.heap.size ⟨some ⟨gU,0,none⟩,nU,mU,u,lo,some ⟨gP,0,none⟩,nP,mP,fun j=>if j=i then gJ C (u j) (p j) else p j⟩:=⟨VT.of (by have:=HgU.out;omega) rUs,VT.of (by have:=HgP.out;omega) rPs⟩
  have HO:Hid (gR (j6 we (w.heap.size+1+1) (.slice (some ⟨gU,0,none⟩) nU mU) (.int .i64 lo) (.slice (some ⟨gP,0,none⟩) nP mP)) w.heap.size ⟨some ⟨gU,0,none⟩,nU,mU,u,lo,some ⟨gP,0,none⟩,nP,mP,fun j=>if j=i then gJ C (u j) (p j) else p j⟩):=kJ hO kRs
  have HB:Hid (Below w.heap.size w (j6 we (w.heap.size+1+1) (.slice (some ⟨gU,0,none⟩) nU mU) (.int .i64 lo) (.slice (some ⟨gP,0,none⟩) nP mP))):=HBs.out.trans (ht.below HBs.out.size (fun x hx=>by have:=List.mem_singleton.1 hx;omega))
  have cB:=fG (iG kRs (.slice (some ⟨gU,0,none⟩) nU mU) (.int .i64 lo) (.slice (some ⟨gP,0,none⟩) nP mP))
  have cR:=fG kRs
  have fR:=fX kRs
  clear ht hO kRs rPs rUs
  unfold j6 at cB
  go_wp2_with fail
  exact bodyPost_ret (v:=.tuple #[.agg #[.slice (some ⟨gU,0,none⟩) nU mU,.int .i64 lo,.slice (some ⟨gP,0,none⟩) nP mP],.bool true]) (by simp [results,Tryz.results56,go_sem,cB]) rfl ⟨⟨some ⟨gU,0,none⟩,nU,mU,u,lo,some ⟨gP,0,none⟩,nP,mP,fun j=>if j=i then gJ C (u j) (p j) else p j⟩,by first | (rw [hpf,HV.out];rfl) | (rw [HV.out];rfl) | rfl | simp [Cnt.cells],HO.out,HB.out,⟨rfl,rfl,rfl,rfl,rfl⟩⟩
 have hc':decide (C.xo≤u i)=false:=decide_eq_false hc
 have HV:Hid (gJ C (u i) false=false):=by rw [Hid];simp [gJ];omega
 refine wp_region_held_drew (S:=fun w'=>(∀ o,w'.cell? ⟨w.heap.size,o,none⟩=(#[.int .i64 C.p,.int .i64 C.c,.int .i64 C.xo,.int .i64 C.xn,.int .i64 C.hd,.int .i64 C.lo,.int .i64 C.dl]:Array Value)[o]?)∧(∀ o,w'.cell? ⟨w.heap.size+1,o,none⟩=(#[.slice (some ⟨gu,qu,none⟩) nU cU,.int .i64 lo,.slice (some ⟨gp,qp,none⟩) nP cP]:Array Value)[o]?)∧w'.cell? ⟨gu,qu+i,none⟩=some (.int .i64 (u i))∧w'.cell? ⟨gp,qp+i,none⟩=some (.bool false)) (by kernel_rfl) ⟨cb,cn,cu,cp⟩ (fun hHeld=>?_)
 refine t0 ?_
 iterate 22 refine tN ?_
 iterate 8 refine sN ?_
 iterate 2 refine tN ?_
 refine dnq ?_
 clear hHeld
 have ht:=ia w2.drew (w.heap.size+1+1) (.slice (some ⟨gU,0,none⟩) nU mU) (.int .i64 lo) (.slice (some ⟨gP,0,none⟩) nP mP)
 have kRd:w2.drew.heap[w.heap.size+1+1]?=some (.cells #[.slice none 0 0,.int .i64 0,.slice none 0 0] 36 (0,0)):=kR
 have hO:gR w2.drew w.heap.size ⟨some ⟨gU,0,none⟩,nU,mU,u,lo,some ⟨gP,0,none⟩,nP,mP,fun j=>if j=i then gJ C (u j) (p j) else p j⟩:=⟨VT.of (by have:=HgU.out;omega) (hrU.ir (w':=w2.drew) rfl),VT.of (by have:=HgP.out;omega) ((hrP.ir (w':=w2.drew) rfl).yk (fun j _=>by
  show Value.bool (p j)=Value.bool (if j=i then gJ C (u j) (p j) else p j)
  by_cases e:j=i
  ·
   subst e
   rw [if_pos rfl,hpf,HV.out]
  ·
   rw [if_neg e]))⟩
 have HO:Hid (gR (j6 w2.drew (w.heap.size+1+1) (.slice (some ⟨gU,0,none⟩) nU mU) (.int .i64 lo) (.slice (some ⟨gP,0,none⟩) nP mP)) w.heap.size ⟨some ⟨gU,0,none⟩,nU,mU,u,lo,some ⟨gP,0,none⟩,nP,mP,fun j=>if j=i then gJ C (u j) (p j) else p j⟩):=kJ hO kRd
 have HB:Hid (Below w.heap.size w (j6 w2.drew (w.heap.size+1+1) (.slice (some ⟨gU,0,none⟩) nU mU) (.int .i64 lo) (.slice (some ⟨gP,0,none⟩) nP mP))):=HB2.out.drew.trans (ht.below HB2.out.drew.size (fun x hx=>by have:=List.mem_singleton.1 hx;omega))
 have cB:=fG (iG kRd (.slice (some ⟨gU,0,none⟩) nU mU) (.int .i64 lo) (.slice (some ⟨gP,0,none⟩) nP mP))
 have cR:=fG kRd
 have fR:=fX kRd
 have cXd:∀ o,w2.drew.cell? ⟨w1.heap.size,o,none⟩=(#[.slice (some ⟨gU,0,none⟩) nU mU,.int .i64 lo,.slice (some ⟨gP,0,none⟩) nP mP]:Array Value)[o]?:=cX
 clear ht hO kRd kR kC kN kX hrU hrP cb cn cu cp cX
 unfold j6 at cB
 generalize w2.drew=wd at *
 go_wp2_with fail
 exact bodyPost_ret (v:=.tuple #[.agg #[.slice (some ⟨gU,0,none⟩) nU mU,.int .i64 lo,.slice (some ⟨gP,0,none⟩) nP mP],.bool false]) (by simp [results,Tryz.results56,go_sem,cB]) rfl ⟨⟨some ⟨gU,0,none⟩,nU,mU,u,lo,some ⟨gP,0,none⟩,nP,mP,fun j=>if j=i then gJ C (u j) (p j) else p j⟩,by first | (rw [hpf,HV.out];rfl) | (rw [HV.out];rfl) | rfl | simp [Cnt.cells],HO.out,HB.out,⟨rfl,rfl,rfl,rfl,rfl⟩⟩
theorem iP.rows {k:Nat} {R R':Rnd} {c:Nat} {s:Int} (h:iP k R R' c s):R.L c≠0∧s=R.z c 0∧R'.L=jT R.L c (R.L c-1)∧R'.z=pS R.z c (fun j=>R.z c (j+1))∧R'.q=R.q∧R'.nQ=R.nQ:=by
 induction h with
 | skip h0 _ ih=>exact ih
 | short h0 h1 _ ih =>
  rename_i R0 _ _ _ _
  have e1:(gv (fS R0)).L=R0.L:=lx R0
  have e2:(gv (fS R0)).z=R0.z:=oV R0
  have e3:(gv (fS R0)).q=R0.q:=wV R0
  have e4:(gv (fS R0)).nQ=R0.nQ:=iC R0
  rw [e1,e2,e3,e4] at ih
  exact ih
 | take h0 h1 =>
  rename_i R0
  refine ⟨h0,rfl,?_,?_,?_,?_⟩
  ·
   unfold jG;split <;> (show jT (fS R0).L (fS R0).now _=_;rw [lx,iB])
  ·
   unfold jG;split <;> (show pS (fS R0).z (fS R0).now _=_;rw [oV,iB])
  ·
   unfold jG;split <;> exact wV R0
  unfold jG;split <;> exact iC R0
def C9 (b:Bool):Pkt:=⟨0,0,0,if b then 2 else 3,0,0,2,⟨#[]⟩⟩
def jF (C:Cfg) (N:Cnt) (i:Nat):List Pkt:=if flN C N i=true then [C9 (gJ C (N.u i) (N.p i))] else []
def Lng.CW (l:Lng):Lng:={ l with nT:=l.nT-1,t:=fun i=>l.t (i+1) }
def Lng.DA (l:Lng) (c:Nat) (M:Rnd):Lng:={ l with uL:=jT l.uL c (l.uL c-1),uz:=pS l.uz c (fun j=>l.uz c (j+1)),R:=M }
def mz (l l':Lng) (id:Int):Prop :=
 (0<l.nT∧l.st=false∧id=l.t 0∧l'=l.CW) ∨
 (¬ (0<l.nT∧l.st=false)∧∃ M x s,mm l.R M x s∧((x=-1∧id=0∧l'={ l with R:=M })∨∃ c:Nat,x=(c:Int)∧id=l.uz c 0∧l'=l.DA c M))
theorem BI (l:Lng):∃ l' id,mz l l' id:=by
 by_cases h:0<l.nT∧l.st=false
 ·
  exact ⟨_,_,.inl ⟨h.1,h.2,rfl,rfl⟩⟩
 obtain ⟨M,x,s,hp⟩:=AP l.R
 have hx:x=-1∨∃ c:Nat,x=(c:Int):=by
  rcases hp with ⟨_,_,e,_⟩ | ⟨_,_,_,e,_⟩ | ⟨_,_,k,c,_,e⟩
  ·
   exact .inl e
  ·
   exact .inl e
  exact .inr ⟨c,e⟩
 rcases hx with e | ⟨c,e⟩
 ·
  exact ⟨_,_,.inr ⟨h,M,x,s,hp,.inl ⟨e,rfl,rfl⟩⟩⟩
 exact ⟨_,_,.inr ⟨h,M,x,s,hp,.inr ⟨c,e,rfl,rfl⟩⟩⟩
def kq (K:Nat→Pkt) (j:Nat):Nat→Pkt:=fun i=>if i=j then { K i with refs:=(K i).refs-1 } else K i
def rmK (K:Nat→Pkt) (j:Nat):Nat→Pkt:=fun i=>if i<j then K i else K (i+1)
def Swg.Dx (S:Swg) (i:Nat) (l':Lng):Swg:={ S with N:=lW S.C S.N i,L:=fun k=>if k=i then l' else S.L k }
def lJ (S S':Swg) (i:Nat) (fs:List Pkt):Prop :=
 ∃ l' id,mz (S.L i) l' id ∧
  ((id=0∧S'=S.Dx i l'∧fs=jF S.C S.N i) ∨
   (id≠0∧∃ j,j<S.nK∧(S.K j).id=id∧fs=jF S.C S.N i++[S.K j] ∧
    (((S.K j).refs≠1∧S'={ S.Dx i l' with K:=kq S.K j }) ∨
    ((S.K j).refs=1∧S'={ S.Dx i l' with nK:=S.nK-1,K:=rmK S.K j,N:=kF (lW S.C S.N i) (S.K j).inn (S.K j).p (-(S.K j).cl) }))))
theorem mz.Dw {S:Swg} (h:S.Ok) {i:Nat} (hi:i<S.nL) {l':Lng} {id:Int} (ht:mz (S.L i) l' id):id=0∨∃ j,j<S.nK∧(S.K j).id=id:=by
 have hl:=h.l i hi
 rcases ht with ⟨h1,h2,rfl,rfl⟩ | ⟨_,M,x,s,hp,⟨_,rfl,_⟩ | ⟨c,rfl,rfl,rfl⟩⟩
 ·
  obtain ⟨⟨j,hj,e,_⟩,_⟩:=hl.t 0 h1
  exact .inr ⟨j,hj,e⟩
 ·
  exact .inl rfl
 rcases hp with ⟨hno,_⟩ | ⟨_,_,_,e,_⟩ | ⟨ho,_,k,c',hpk,e⟩
 ·
  exact absurd hl.r hno
 ·
  omega
 have e2:c'=c:=by omega
 subst e2
 have hw:=hpk.rows.1
 have hc2:c'<2:=by
  have:=(hpk.ok ho).2.2.1
  have:=hl.n
  omega
 obtain ⟨hz1,hz2,_⟩:=hl.z c' hc2
 obtain ⟨⟨j,hj,e3,_⟩,_⟩:=hz1 0 (by rw [hz2];exact Nat.pos_of_ne_zero hw)
 exact .inr ⟨j,hj,e3⟩
theorem BM {S:Swg} (h:S.Ok) {i:Nat} (hi:i<S.nL):∃ S' fs,lJ S S' i fs:=by
 obtain ⟨l',id,ht⟩:=BI (S.L i)
 by_cases h0:id=0
 ·
  exact ⟨_,_,l',id,ht,.inl ⟨h0,rfl,rfl⟩⟩
 rcases ht.Dw h hi with e | ⟨j,hj,e⟩
 ·
  exact absurd e h0
 by_cases h1:(S.K j).refs=1
 ·
  exact ⟨_,_,l',id,ht,.inr ⟨h0,j,hj,e,rfl,.inr ⟨h1,rfl⟩⟩⟩
 exact ⟨_,_,l',id,ht,.inr ⟨h0,j,hj,e,rfl,.inl ⟨h1,rfl⟩⟩⟩
section
variable {P : Program} {ops : Array Oper} {Q : Exit → Act → World → Prop} {md : Region.Mode} {T : World → Prop} {d : Nat}
def ka (P:Program) (md:Region.Mode) (ops:Array Oper) (Q:Exit→Act→World→Prop) (T:World→Prop) (d:Nat):Nat→Array Bool→Act→World→Prop
 | 0,listed,a,w=>Region.ready md ops listed=[]∧Q .normal a w
 | fuel+1,listed,a,w =>
  (Region.ready md ops listed=[]→Q .normal a w) ∧
  ∀ i∈Region.ready md ops listed,wpOp P ops Q i (fun a' w'=>(i=d∨T w')∧ka P md ops Q T d fuel (listed.setIfInBounds i true) a' w') a w
theorem ql:∀ (fuel:Nat) (listed:Array Bool) (a:Act) (w:World),ka P md ops Q T d fuel listed a w→wpAny P md ops Q fuel listed a w
 | 0,_,_,_,h=>h
 | fuel+1,_,_,_,h=>⟨h.1,fun i hi=>wpOp_mono (fun a' w' h'=>ql fuel _ a' w' h'.2) (h.2 i hi)⟩
def jO (md:Region.Mode) (ops:Array Oper) (d i:Nat):Bool:=match ops[d]? with
 | some o=>o.after.any fun e=>Region.binds md e && e.on == i
 | none=>false
theorem qL {i:Nat} (h:jO md ops d i=true):∃ o,ops[d]?=some o∧∃ e∈o.after,Region.binds md e=true∧e.on=i:=by
 unfold jO at h
 cases ho:ops[d]? with
 | none=>rw [ho] at h;cases h
 | some o =>
  rw [ho] at h
  obtain ⟨e,he,h2⟩:=Array.any_eq_true'.1 h
  simp only [Bool.and_eq_true,beq_iff_eq] at h2
  exact ⟨o,rfl,e,he,h2.1,h2.2⟩
theorem pw {i:Nat} {listed:Array Bool} (h:jO md ops d i=true) (hr:i∈Region.ready md ops listed):d∉Region.ready md ops listed:=by
 intro hd
 obtain ⟨o,ho,e,he,hb,hon⟩:=qL h
 obtain ⟨hjun,oj,hoj,hall⟩:=mem_ready.1 hd
 rw [ho] at hoj
 cases hoj
 have h1:=hall e he hb
 have h0:=(mem_ready.1 hr).1
 rw [hon] at h1
 rcases Nat.lt_or_ge i listed.size with h' | h'
 ·
  simp [h'] at h0 h1;rw [h0] at h1;cases h1
 simp [Array.getElem?_eq_none h'] at h1
theorem ss {i:Nat} {oi:Oper} {v:Value} (hi:ops[i]?=some oi) (hsel:∀ (j:Nat) (o:Oper) cs b,ops[j]?=some o→o.op≠.select cs b)
  (hQ:∀ c a w,Q (.panic c) (a.put oi.dst v) w→Q (.panic c) a w) (hd:jO md ops d i=true) :
  ∀ (fuel:Nat) (listed:Array Bool) (a:Act) (w:World),
   (∀ j oj,ops[j]?=some oj→j≠i→listed.getD j true=false→(∀ e∈oj.after,Region.binds md e=true→e.on≠i)→oi.apart ops oj=true) →
   i∈Region.ready md ops listed→YieldsIf P ops T oi v a→T w →
   ka P md ops Q T d fuel (listed.setIfInBounds i true) (a.put oi.dst v) w→ka P md ops Q T d (fuel+1) listed a w:=by
 intro fuel
 induction fuel with
 | zero =>
  intro listed a w _ hr hy hS H
  refine ⟨fun h=>(by rw [h] at hr;cases hr),fun j hj=>?_⟩
  by_cases hji:j=i
  ·
   subst hji;exact hy.wpOp hi hS ⟨.inr hS,H⟩
  have:=ready_mono hj hji
  rw [H.1] at this
  cases this
 | succ fuel ih =>
  intro listed a w hfree hr hy hS H
  refine ⟨fun h=>(by rw [h] at hr;cases hr),fun j hj=>?_⟩
  by_cases hji:j=i
  ·
   subst hji;exact hy.wpOp hi hS ⟨.inr hS,H⟩
  have h1:=H.2 j (ready_mono hj hji)
  have hjd:j≠d:=fun e=>pw hd hr (e▸hj)
  obtain ⟨hjun,oj,hoj,hall⟩:=mem_ready.1 hj
  have hnot:∀ e∈oj.after,Region.binds md e=true→e.on≠i:=fun e he hb heq=>by
   have h1:=hall e he hb
   have h0:=(mem_ready.1 hr).1
   rw [heq] at h1
   rcases Nat.lt_or_ge i listed.size with h' | h'
   ·
    simp [h'] at h0 h1;rw [h0] at h1;cases h1
   simp [Array.getElem?_eq_none h'] at h1
  have h2:=wpOp_putIf hoj (hfree j oj hoj hji hjun hnot) (fun cs b=>hsel i oi cs b hi) (fun cs b=>hsel j oj cs b hoj) hQ hy h1
  have hfree':∀ k ok,ops[k]?=some ok→k≠i→(listed.setIfInBounds j true).getD k true=false →
    (∀ e∈ok.after,Region.binds md e=true→e.on≠i)→oi.apart ops ok=true:=fun k ok hk hki hun hno=>by
   refine hfree k ok hk hki ?_ hno
   by_cases hjk:j=k
   ·
    subst hjk;exact hjun
   rw [getD_set_ne true hjk] at hun;exact hun
  refine wpOp_mono (fun a' w' h3=>?_) h2
  have hT:T w':=h3.2.1.resolve_left hjd
  refine ⟨.inr hT,ih (listed.setIfInBounds j true) a' w' hfree' (ready_mono hr (Ne.symm hji)) h3.1 hT ?_⟩
  rw [Array.setIfInBounds_comm _ _ hji]
  exact h3.2.2
theorem ji {i:Nat} (dd:Option Tmp) {oi:Oper} {v:Value} {fuel:Nat} {listed:Array Bool} {a:Act} {w:World} (hy:∀ w,T w→(execOp a.eval oi).run P w=.ok (.value v) w) (hS:T w)
  (h:ka P md ops Q T d fuel (listed.setIfInBounds i true) (a.put dd v) w) (hi:ops[i]?=some oi:=by rfl) (hd:oi.dst=dd:=by rfl) (hwt:jO md ops d i=true:=by kernel_rfl)
  (hs:Region.noSelect ops=true:=by kernel_rfl) (hf:Region.free md ops listed i=true:=by kernel_rfl) (hr:(Region.ready md ops listed).contains i=true:=by kernel_rfl)
  (hQ:∀ c a w,Q (.panic c) (a.put dd v) w→Q (.panic c) a w:=by exact fun _ _ _ h=>h) (hw:Region.wanted oi (yielded ops a.tmps)=true:=by kernel_rfl):ka P md ops Q T d (fuel+1) listed a w:=by
 subst hd
 exact ss hi (Region.noSelect_spec hs) hQ hwt fuel listed a w (Region.free_spec hi hf) (by simpa using hr) (Or.inl ⟨hw,hy⟩) hS h
theorem tE (i k:Nat) {oi:Oper} {v:Value} {fuel:Nat} {listed:Array Bool} {a a':Act} {w:World} (hS:T w)
  (h:ka P md ops Q T d fuel (listed.setIfInBounds i true) a' w) (hi:ops[i]?=some oi:=by rfl) (hd:oi.dst=some k:=by rfl)
  (hy:∀ w,T w→(execOp a.eval oi).run P w=.ok (.value v) w:=by intro wx hSw;go_simp;try with_reducible rfl)
  (ha:a.put (some k) v=a':=by (try simp only [Act.put,PZ]);try exact rfl) (hwt:jO md ops d i=true:=by kernel_rfl)
  (hs:Region.noSelect ops=true:=by kernel_rfl) (hf:Region.free md ops listed i=true:=by kernel_rfl) (hr:(Region.ready md ops listed).contains i=true:=by kernel_rfl)
  (hQ:∀ c a w,Q (.panic c) (a.put (some k) v) w→Q (.panic c) a w:=by exact fun _ _ _ h=>h) (hw:Region.wanted oi (yielded ops a.tmps)=true:=by kernel_rfl):ka P md ops Q T d (fuel+1) listed a w :=
 ji (some k) hy hS (by rw [ha];exact h) hi hd hwt hs hf hr hQ hw
def fI (P:Program) (md:Region.Mode) (ops:Array Oper) (Q:Exit→Act→World→Prop) (T:World→Prop) (d fuel:Nat) (listed:Array Bool) (a:Act) (w:World) (rs:List Nat):Prop :=
 ∀ i∈rs,wpOp P ops Q i (fun a' w'=>(i=d∨T w')∧ka P md ops Q T d fuel (listed.setIfInBounds i true) a' w') a w
theorem fI.nil {fuel:Nat} {listed:Array Bool} {a:Act} {w:World}:fI P md ops Q T d fuel listed a w []:=fun _ h=>by cases h
theorem fI.cons {fuel:Nat} {listed:Array Bool} {a:Act} {w:World} {i:Nat} {o:Oper} {rs:List Nat} (ho:ops[i]?=some o)
  (h:∀ K':Act→World→Prop,Shut (∀ a w,T w→ka P md ops Q T d fuel (listed.setIfInBounds i true) a w→K' a w)→if Region.wanted o (yielded ops a.tmps)=true then Oper.wp P o a w K' Q else K' (a.put o.dst undef) w)
  (hs:fI P md ops Q T d fuel listed a w rs):fI P md ops Q T d fuel listed a w (i :: rs):=fun j hj=>by
 rcases List.mem_cons.1 hj with rfl | hj
 ·
  exact wpOp_step ho (fun K' hK=>h K' (fun a w hS hW=>hK a w ⟨.inr hS,hW⟩))
 exact hs j hj
theorem fI.last {fuel:Nat} {listed:Array Bool} {a:Act} {w:World} {o:Oper} (ho:ops[d]?=some o)
  (h:∀ K':Act→World→Prop,Shut (∀ a w,ka P md ops Q T d fuel (listed.setIfInBounds d true) a w→K' a w)→if Region.wanted o (yielded ops a.tmps)=true then Oper.wp P o a w K' Q else K' (a.put o.dst undef) w):fI P md ops Q T d fuel listed a w [d]:=fun j hj=>by
 obtain rfl:=List.mem_singleton.1 hj
 exact wpOp_step ho (fun K' hK=>h K' (fun a w hW=>hK a w ⟨.inl rfl,hW⟩))
theorem fM {rs:List Nat} {fuel:Nat} {listed:Array Bool} {a:Act} {w:World} (hr:Region.ready md ops listed=rs) (hne:rs≠[])
  (h:fI P md ops Q T d fuel listed a w rs):ka P md ops Q T d (fuel+1) listed a w :=
 ⟨fun h0=>absurd (hr▸h0) hne,hr▸h⟩
theorem ie {listed:Array Bool} {a:Act} {w:World} (hr:Region.ready md ops listed=[]) (h:Q .normal a w) :
  ∀ fuel,ka P md ops Q T d fuel listed a w
 | 0=>⟨hr,h⟩
 | _+1=>⟨fun _=>h,by rw [hr];simp⟩
theorem iE {id:Nat} {a:Act} {w:World} (T:World→Prop) (d:Nat) (hm:P.follows .mixedOrders=true)
  (h:ka P .any ops Q T d ops.size (Array.replicate ops.size false) a w.drew):(Code.region id ops true).wp P Q a w :=
 wp_region_any hm (ql _ _ _ _ h)
end
theorem jz {o:Oper} {a:Act} {K:Act→World→Prop} {Q:Exit→Act→World→Prop} {w:World} {c:Prop} [Decidable c] {E:Prop} (hc:c) (dd:Option Tmp) (hd:o.dst=dd) (ty:TypeId) (x y:Operand) (ho:o.op=.store ty x y) (g off:Nat) (hx:a.eval x=.pointer (some ⟨g,off,none⟩))
  (v:Value) (hy:a.eval y=v) (n:Nat) (hn:v.cells.size=n) (t:TypeId) (cur:Array Value) (hg:w.heap[g]?=some (.cells cur t (0,0))) (hi:(Tryz.prog.info? ty).map (·.size)=some n) (hf:off+n≤cur.size) (h1:v.cells.all (·.oneCell')=true)
  (h:∀ W,Put w W g (lay cur off v.cells) t→K (a.put dd undef) W):if c then o.wp Tryz.prog a w K Q else E:=by
 subst hd
 subst hn
 rw [if_pos hc]
 unfold Oper.wp execOp
 simp only [ho,hx,hy,Instr.storeAt,Instr.sureAddr,Sem.run_bind,Sem.run_pure,Result.andThen_ok,l0 w g off t ty cur v hg hi hf h1]
 exact h _ (nM hg _)
theorem jX {o:Oper} {a:Act} {K:Act→World→Prop} {Q:Exit→Act→World→Prop} {W W':World} {c:Prop} [Decidable c] {E:Prop} (hc:c) (dd:Option Tmp) (hd:o.dst=dd) (s x:Operand) (t:TypeId) (vs vx v:Value)
  (ho:o.op=.call { callee:=.builtin .append,args:=#[s,x],argTypes:=#[t,t] }) (hty:o.type=t) (hs:a.eval s=vs) (hx:a.eval x=vx)
  (hr:(Builtin.append_ #[t,t] t #[vs,vx]).run Tryz.prog W=.ok v W') (h:K (a.put dd v) W'):if c then o.wp Tryz.prog a W K Q else E:=by
 subst hd
 exact uK hc s x t vs vx v ho hty hs hx hr h
theorem iW {fn:Func} {i:Tmp} {ty:TypeId} (h:fn.results=#[.cell i ty]) (n:Nat) (d:TypeDesc) (hu:Tryz.prog.underlying ty=some d) (hd:d.isRow=true) (hn:(Tryz.prog.info? ty).map (·.size)=some n) (tmps:Array Value) (w:World) (g:Nat) (cs:Array Value) (hi:tmps[i]?.getD undef=.pointer (some ⟨g,0,none⟩)) (t:TypeId) (hk:w.heap[g]?=some (.cells cs t (0,0))) (hs:cs.size=n) :
  (results fn tmps).run Tryz.prog w=.ok (.agg cs) w:=by
 have:=run_loadVar_mid (P:=Tryz.prog) w g 0 ty cs.toList d (fun j v hv=>by
  rw [Nat.zero_add,fG hk,←Array.getElem?_toList];exact hv) hu hd (by rw [hn,Array.length_toList,hs])
 rw [Array.toArray_toList] at this
 simp [results,h,hi,asAddr,this]
structure g5 (w:World) (A B C:Array Value) (tA tB:TypeId) (W:World):Prop where
 a:W.heap[w.heap.size]?=some (.cells A tA (0,0))
 b:W.heap[w.heap.size+1]?=some (.cells B tB (0,0))
 c:W.heap[w.heap.size+1+1]?=some (.cells C tB (0,0))
 bel:Below w.heap.size w W
 sz:w.heap.size+1+1+1≤W.heap.size
theorem g5.start (w:World) (A B C:Array Value) (tA tB:TypeId):g5 w A B C tA tB (((w.alloc (.cells A tA)).alloc (.cells B tB)).alloc (.cells C tB)):=by
 obtain ⟨h1,h2,h3,h4,h5⟩:=mR (w:=w) (A:=.cells A tA) (B:=.cells B tB) (C:=.cells C tB) (Below.refl _ _)
 exact ⟨h1,h2,h3,h4,h5⟩
theorem g5.up {w W W':World} {A B C:Array Value} {tA tB:TypeId} (h:g5 w A B C tA tB W) (hb:Below W.heap.size W W'):g5 w A B C tA tB W' :=
 ⟨(hb.block _ (fH h.a)).trans h.a,(hb.block _ (fH h.b)).trans h.b,(hb.block _ (fH h.c)).trans h.c,h.bel.trans (hb.mono h.bel.size),Nat.le_trans h.sz hb.size⟩
theorem g5.put {w W W':World} {A B C C':Array Value} {tA tB:TypeId} (h:g5 w A B C tA tB W) (hp:Put W W' (w.heap.size+1+1) C' tB):g5 w A B C' tA tB W' :=
 ⟨(hp.to.block _ (fH h.a) (by simp;omega)).trans h.a,(hp.to.block _ (fH h.b) (by simp)).trans h.b,hp.blk,h.bel.trans (hp.to.below h.bel.size (fun x hx=>by simp at hx;omega)),by rw [hp.size];exact h.sz⟩
theorem g5.out {w W W':World} {A B C B':Array Value} {tA tB:TypeId} (h:g5 w A B C tA tB W) (hp:Put W W' (w.heap.size+1) B' tB):g5 w A B' C tA tB W' :=
 ⟨(hp.to.block _ (fH h.a) (by simp)).trans h.a,hp.blk,(hp.to.block _ (fH h.c) (by simp)).trans h.c,h.bel.trans (hp.to.below h.bel.size (fun x hx=>by simp at hx;omega)),by rw [hp.size];exact h.sz⟩
theorem mc:(Tryz.prog.info? 97).map (·.size)=some 8:=by kernel_rfl
theorem ix:(Tryz.prog.info? 102).map (·.size)=some 8:=by kernel_rfl
theorem jC:(Tryz.prog.info? 74).map (·.size)=some 5:=by kernel_rfl
theorem jv:(Tryz.prog.info? 2).map (·.size)=some 1:=by kernel_rfl
theorem Pkt.lL (x:Pkt):x.cells.all (·.oneCell')=true:=by simp [Pkt.cells,Value.oneCell']
theorem Lng.lL (l:Lng):l.cells.all (·.oneCell')=true:=by simp [Lng.cells,Value.oneCell']
theorem sx (x:Pkt) (w:World) :
  Calls Tryz.prog 63 #[.agg x.cells] w fun e w'=>e=.returned (.agg x.cells)∧Below w.heap.size w w':=by
 obtain ⟨W0,eW⟩:∃ W,(((w.alloc (.cells x.cells 85)).alloc (.cells #[.int .i64 0,.int .i64 0,.int .i64 0,.int .i64 0,.int .i64 0,.int .i64 0,.int .i64 0,.string ⟨#[]⟩] 97)).alloc (.cells #[.int .i64 0,.int .i64 0,.int .i64 0,.int .i64 0,.int .i64 0,.int .i64 0,.int .i64 0,.string ⟨#[]⟩] 97))=W:=⟨_,rfl⟩
 have HX:Hid (g5 w x.cells #[.int .i64 0,.int .i64 0,.int .i64 0,.int .i64 0,.int .i64 0,.int .i64 0,.int .i64 0,.string ⟨#[]⟩] #[.int .i64 0,.int .i64 0,.int .i64 0,.int .i64 0,.int .i64 0,.int .i64 0,.int .i64 0,.string ⟨#[]⟩] 85 97 W0):=by rw [←eW];exact g5.start _ _ _ _ _ _
 go_enter Tryz.func63,Tryz.ntmps63
 have c0:W0.cell? ⟨w.heap.size,0,none⟩=some (.int .i64 x.id):=fG HX.out.a 0
 have HC:=HX.out.c
 replace HC:Hid (W0.heap[w.heap.size+1+1]?=some (.cells #[.int .i64 0,.int .i64 0,.int .i64 0,.int .i64 0,.int .i64 0,.int .i64 0,.int .i64 0,.string ⟨#[]⟩] 97 (0,0))):=HC
 go_wp2_with (refine fJ rfl 2 (.tmp 6) (.tmp 5) rfl (w.heap.size+1+1) 0 rfl (.int .i64 x.id) rfl 1 rfl 97 _ HC.out jv (Nat.le_of_ble_eq_true rfl) (by simp [Value.cells,Value.oneCell',Rnd.cells,Cfg.cells,Cnt.cells]) ?_)
 intro W1 hP
 clear eW
 replace hP:=hP.cast (cs':=#[.int .i64 x.id,.int .i64 0,.int .i64 0,.int .i64 0,.int .i64 0,.int .i64 0,.int .i64 0,.string ⟨#[]⟩]) rfl
 replace HX:Hid (g5 w x.cells #[.int .i64 0,.int .i64 0,.int .i64 0,.int .i64 0,.int .i64 0,.int .i64 0,.int .i64 0,.string ⟨#[]⟩] #[.int .i64 x.id,.int .i64 0,.int .i64 0,.int .i64 0,.int .i64 0,.int .i64 0,.int .i64 0,.string ⟨#[]⟩] 85 97 W1):=HX.out.put hP
 have T1:Touch [w.heap.size+1,w.heap.size+1+1] W0 W1:=hP.to.mono (fun x hx=>by simp at hx;simp [hx])
 clear hP HC c0
 have c1:W1.cell? ⟨w.heap.size,1,none⟩=some (.int .i64 x.inn):=fG HX.out.a 1
 have HC:=HX.out.c
 replace HC:Hid (W1.heap[w.heap.size+1+1]?=some (.cells #[.int .i64 x.id,.int .i64 0,.int .i64 0,.int .i64 0,.int .i64 0,.int .i64 0,.int .i64 0,.string ⟨#[]⟩] 97 (0,0))):=HC
 go_wp2_with (refine fJ rfl 2 (.tmp 9) (.tmp 8) rfl (w.heap.size+1+1) 1 rfl (.int .i64 x.inn) rfl 1 rfl 97 _ HC.out jv (Nat.le_of_ble_eq_true rfl) (by simp [Value.cells,Value.oneCell',Rnd.cells,Cfg.cells,Cnt.cells]) ?_)
 intro W2 hP
 replace hP:=hP.cast (cs':=#[.int .i64 x.id,.int .i64 x.inn,.int .i64 0,.int .i64 0,.int .i64 0,.int .i64 0,.int .i64 0,.string ⟨#[]⟩]) rfl
 replace HX:Hid (g5 w x.cells #[.int .i64 0,.int .i64 0,.int .i64 0,.int .i64 0,.int .i64 0,.int .i64 0,.int .i64 0,.string ⟨#[]⟩] #[.int .i64 x.id,.int .i64 x.inn,.int .i64 0,.int .i64 0,.int .i64 0,.int .i64 0,.int .i64 0,.string ⟨#[]⟩] 85 97 W2):=HX.out.put hP
 have T2:Touch [w.heap.size+1,w.heap.size+1+1] W1 W2:=hP.to.mono (fun x hx=>by simp at hx;simp [hx])
 clear hP HC c1
 have c2:W2.cell? ⟨w.heap.size,2,none⟩=some (.int .i64 x.refs):=fG HX.out.a 2
 have HC:=HX.out.c
 replace HC:Hid (W2.heap[w.heap.size+1+1]?=some (.cells #[.int .i64 x.id,.int .i64 x.inn,.int .i64 0,.int .i64 0,.int .i64 0,.int .i64 0,.int .i64 0,.string ⟨#[]⟩] 97 (0,0))):=HC
 go_wp2_with (refine fJ rfl 2 (.tmp 12) (.tmp 11) rfl (w.heap.size+1+1) 2 rfl (.int .i64 x.refs) rfl 1 rfl 97 _ HC.out jv (Nat.le_of_ble_eq_true rfl) (by simp [Value.cells,Value.oneCell',Rnd.cells,Cfg.cells,Cnt.cells]) ?_)
 intro W3 hP
 replace hP:=hP.cast (cs':=#[.int .i64 x.id,.int .i64 x.inn,.int .i64 x.refs,.int .i64 0,.int .i64 0,.int .i64 0,.int .i64 0,.string ⟨#[]⟩]) rfl
 replace HX:Hid (g5 w x.cells #[.int .i64 0,.int .i64 0,.int .i64 0,.int .i64 0,.int .i64 0,.int .i64 0,.int .i64 0,.string ⟨#[]⟩] #[.int .i64 x.id,.int .i64 x.inn,.int .i64 x.refs,.int .i64 0,.int .i64 0,.int .i64 0,.int .i64 0,.string ⟨#[]⟩] 85 97 W3):=HX.out.put hP
 have T3:Touch [w.heap.size+1,w.heap.size+1+1] W2 W3:=hP.to.mono (fun x hx=>by simp at hx;simp [hx])
 clear hP HC c2
 have c3:W3.cell? ⟨w.heap.size,3,none⟩=some (.int .i64 x.k):=fG HX.out.a 3
 have c4:W3.cell? ⟨w.heap.size,4,none⟩=some (.int .i64 x.d):=fG HX.out.a 4
 have c5:W3.cell? ⟨w.heap.size,5,none⟩=some (.int .i64 x.s):=fG HX.out.a 5
 have c6:W3.cell? ⟨w.heap.size,6,none⟩=some (.int .i64 x.p):=fG HX.out.a 6
 have c7:W3.cell? ⟨w.heap.size,7,none⟩=some (.string x.b):=fG HX.out.a 7
 go_wp2_with fail
 refine (uU x.k x.d x.s x.p x.b _).mono ?_
 rintro e wf ⟨rfl,hb⟩
 clear c3 c4 c5 c6 c7
 replace HX:Hid (g5 w x.cells #[.int .i64 0,.int .i64 0,.int .i64 0,.int .i64 0,.int .i64 0,.int .i64 0,.int .i64 0,.string ⟨#[]⟩] #[.int .i64 x.id,.int .i64 x.inn,.int .i64 x.refs,.int .i64 0,.int .i64 0,.int .i64 0,.int .i64 0,.string ⟨#[]⟩] 85 97 wf):=HX.out.up hb
 have T4:Touch [w.heap.size+1,w.heap.size+1+1] W3 wf:=Touch.gY hb
 clear hb
 have HC:=HX.out.c
 replace HC:Hid (wf.heap[w.heap.size+1+1]?=some (.cells #[.int .i64 x.id,.int .i64 x.inn,.int .i64 x.refs,.int .i64 0,.int .i64 0,.int .i64 0,.int .i64 0,.string ⟨#[]⟩] 97 (0,0))):=HC
 go_wp2_with (refine fJ rfl 74 (.tmp 16) (.tmp 15) rfl (w.heap.size+1+1) 3 rfl (.agg #[.int .i64 x.k,.int .i64 x.d,.int .i64 x.s,.int .i64 x.p,.string x.b]) rfl 5 rfl 97 _ HC.out jC (Nat.le_of_ble_eq_true rfl) (by simp [Value.cells,Value.oneCell',Rnd.cells,Cfg.cells,Cnt.cells]) ?_)
 intro W5 hP
 replace hP:=hP.cast (cs':=#[.int .i64 x.id,.int .i64 x.inn,.int .i64 x.refs,.int .i64 x.k,.int .i64 x.d,.int .i64 x.s,.int .i64 x.p,.string x.b]) rfl
 replace HX:Hid (g5 w x.cells #[.int .i64 0,.int .i64 0,.int .i64 0,.int .i64 0,.int .i64 0,.int .i64 0,.int .i64 0,.string ⟨#[]⟩] #[.int .i64 x.id,.int .i64 x.inn,.int .i64 x.refs,.int .i64 x.k,.int .i64 x.d,.int .i64 x.s,.int .i64 x.p,.string x.b] 85 97 W5):=HX.out.put hP
 have T5:Touch [w.heap.size+1,w.heap.size+1+1] wf W5:=hP.to.mono (fun x hx=>by simp at hx;simp [hx])
 clear hP HC 
 have HC:Hid (W5.heap[w.heap.size+1+1]?=some (.cells x.cells 97 (0,0))):=HX.out.c
 have HD:Hid (W5.heap[w.heap.size+1]?=some (.cells #[.int .i64 0,.int .i64 0,.int .i64 0,.int .i64 0,.int .i64 0,.int .i64 0,.int .i64 0,.string ⟨#[]⟩] 97 (0,0))):=HX.out.b
 have HL:Hid (∀ j,j<8→W5.cell? ⟨w.heap.size+1+1,0+j,none⟩=(x.cells)[j]?):=fun j _=>by rw [Nat.zero_add];exact fG HC.out j
 go_wp2_with (first | refine fP rfl 97 8 _ Tryz.underlying97 rfl mc (.tmp 3) rfl (w.heap.size+1+1) 0 rfl (x.cells) rfl HL.out ?_ | refine fJ rfl 97 (.tmp 2) (.tmp 17) rfl (w.heap.size+1) 0 rfl (.agg x.cells) rfl 8 rfl 97 _ HD.out mc (Nat.le_of_ble_eq_true rfl) x.lL ?_)
 intro W6 hP
 replace hP:Put W5 W6 (w.heap.size+1) x.cells 97:=hP.cast rfl
 have T6:Touch [w.heap.size+1,w.heap.size+1+1] W5 W6:=hP.to.mono (fun x hx=>by simp at hx;simp [hx])
 have HK:Hid (W6.heap[w.heap.size+1]?=some (.cells x.cells 97 (0,0))):=hP.blk
 have HB:Hid (Below w.heap.size w W6):=(HX.out.out hP).bel
 clear hP HC HD HL
 go_wp2_with fail
 refine bodyPost_ret (iW Tryz.results63 8 _ Tryz.underlying97 rfl mc _ _ (w.heap.size+1) x.cells rfl 97 HK.out rfl) rfl ⟨rfl,HB.out⟩
theorem zD:(Tryz.prog.info? 4).map (·.size)=some 1:=by kernel_rfl
theorem CR:(Tryz.prog.info? 25).map (·.size)=some 1:=by kernel_rfl
theorem vM:(Tryz.prog.info? 87).map (·.size)=some 1:=by kernel_rfl
theorem j3 {g o n x:Nat} (h:x∈gF (some ⟨g,o,none⟩) n):x=g:=by
 unfold gF at h
 split at h
 ·
  simp at h
 simpa using h
theorem qI {n:Nat} {G L:Nat→Nat} (h:∀ i j,i<j→j<n→G i<G j):(mi n (fun i=>some ⟨G i,0,none⟩) L).Nodup:=by
 unfold mi
 induction n with
 | zero=>simp
 | succ n ih =>
  rw [List.range_succ,List.flatMap_append]
  simp only [List.flatMap_cons,List.flatMap_nil,List.append_nil]
  refine jj (ih (fun i j hij hj=>h i j hij (by omega))) (jE _ _) (G n) (fun x hx=>?_) (fun x hx=>?_)
  ·
   simp only [List.mem_flatMap,List.mem_range] at hx
   obtain ⟨i,hi,hx⟩:=hx
   rw [j3 hx]
   exact h i n hi (by omega)
  rw [j3 hx]
  exact Nat.le_refl _
theorem CP {nT nU nQ nD nS gT gQ gD gS:Nat} {G G2 uL L:Nat→Nat} {m:Nat} {st:Bool} {cT cU cQ cD cS:Nat} {t:Nat→Int} {aU:Option Addr} {uC C:Nat→Nat} {uz z:Nat→Nat→Int} {q d:Nat→Int} {turn:Int} {fresh:Bool} {aS:Option Addr} (h1:gT<m) (h2:∀ i,i<nU→gT<G i∧G i<m) (h3:∀ i j,i<j→j<nU→G i<G j) (h4:m≤gQ) (h5:gQ<gD) (h6:gD≤gS) (h7:∀ i,i<nS→gS<G2 i) (h8:∀ i j,i<j→j<nS→G2 i<G2 j) :
  (Lng.jh ⟨st,some ⟨gT,0,none⟩,nT,cT,t,aU,nU,cU,fun i=>some ⟨G i,0,none⟩,uL,uC,uz,⟨some ⟨gQ,0,none⟩,nQ,cQ,q,some ⟨gD,0,none⟩,nD,cD,d,turn,fresh,aS,nS,cS,fun i=>some ⟨G2 i,0,none⟩,L,C,z⟩⟩).Nodup:=by
 unfold Lng.jh
 dsimp only
 refine jj (jE _ _) (jj (qI h3) (jj (jE _ _) (jj (jE _ _) (qI h8) (gD+1) ?_ ?_) gD ?_ ?_) m ?_ ?_) (gT+1) ?_ ?_
 ·
  intro x hx;rw [j3 hx];omega
 ·
  intro x hx
  exact dL
 ·
  intro x hx;rw [j3 hx];omega
 ·
  intro x hx
  exact dH
 ·
  intro x hx
  exact dK
 ·
  intro x hx
  exact dI
 ·
  intro x hx;rw [j3 hx];omega
 intro x hx
 rcases List.mem_append.1 hx with hx | hx
 · exact dK
 exact dI
theorem xf (l:Lng) (w:World) (hs:l.Small) (h:ml w l) :
  Calls Tryz.prog 64 #[.agg l.cells] w fun e w'=>∃ l2,e=.returned (.agg l2.cells)∧gy l l2∧gO w' w.heap.size l2∧Below w.heap.size w w':=by
 have HR:Hid (ml w l):=h
 have HS:Hid l.Small:=hs
 clear h hs
 obtain ⟨W0,eW⟩:∃ W,(((w.alloc (.cells l.cells 91)).alloc (.cells #[.bool false,.slice none 0 0,.slice none 0 0,.slice none 0 0,.slice none 0 0,.int .i64 0,.bool false,.slice none 0 0] 102)).alloc (.cells #[.bool false,.slice none 0 0,.slice none 0 0,.slice none 0 0,.slice none 0 0,.int .i64 0,.bool false,.slice none 0 0] 102))=W:=⟨_,rfl⟩
 have HX:Hid (g5 w l.cells #[.bool false,.slice none 0 0,.slice none 0 0,.slice none 0 0,.slice none 0 0,.int .i64 0,.bool false,.slice none 0 0] #[.bool false,.slice none 0 0,.slice none 0 0,.slice none 0 0,.slice none 0 0,.int .i64 0,.bool false,.slice none 0 0] 91 102 W0):=by rw [←eW];exact g5.start _ _ _ _ _ _
 go_enter Tryz.func64,Tryz.ntmps64
 have c0:W0.cell? ⟨w.heap.size,0,none⟩=some (.bool l.st):=fG HX.out.a 0
 have HC:=HX.out.c
 replace HC:Hid (W0.heap[w.heap.size+1+1]?=some (.cells #[.bool false,.slice none 0 0,.slice none 0 0,.slice none 0 0,.slice none 0 0,.int .i64 0,.bool false,.slice none 0 0] 102 (0,0))):=HC
 go_wp2_with (refine fJ rfl 4 (.tmp 6) (.tmp 5) rfl (w.heap.size+1+1) 0 rfl (.bool l.st) rfl 1 rfl 102 _ HC.out zD (Nat.le_of_ble_eq_true rfl) (by simp [Value.cells,Value.oneCell',Rnd.cells,Cfg.cells,Cnt.cells]) ?_)
 intro W1 hP
 clear eW
 replace hP:=hP.cast (cs':=#[.bool l.st,.slice none 0 0,.slice none 0 0,.slice none 0 0,.slice none 0 0,.int .i64 0,.bool false,.slice none 0 0]) rfl
 replace HX:Hid (g5 w l.cells #[.bool false,.slice none 0 0,.slice none 0 0,.slice none 0 0,.slice none 0 0,.int .i64 0,.bool false,.slice none 0 0] #[.bool l.st,.slice none 0 0,.slice none 0 0,.slice none 0 0,.slice none 0 0,.int .i64 0,.bool false,.slice none 0 0] 91 102 W1):=HX.out.put hP
 have T1:Touch [w.heap.size+1,w.heap.size+1+1] W0 W1:=hP.to.mono (fun x hx=>by simp at hx;simp [hx])
 clear hP HC c0
 have c1:W1.cell? ⟨w.heap.size,1,none⟩=some (.slice l.aT l.nT l.cT):=fG HX.out.a 1
 go_wp2_with fail
 refine (kM l.aT l.nT l.cT l.t _ HS.out.t (HR.out.t.up HX.out.bel)).mono ?_
 rintro e wt ⟨rfl,rT,hb⟩
 clear c1
 have sT:=HX.out.sz
 replace HX:Hid (g5 w l.cells #[.bool false,.slice none 0 0,.slice none 0 0,.slice none 0 0,.slice none 0 0,.int .i64 0,.bool false,.slice none 0 0] #[.bool l.st,.slice none 0 0,.slice none 0 0,.slice none 0 0,.slice none 0 0,.int .i64 0,.bool false,.slice none 0 0] 91 102 wt):=HX.out.up hb
 have T2:Touch [w.heap.size+1,w.heap.size+1+1] W1 wt:=Touch.gY hb
 clear hb
 have HC:=HX.out.c
 replace HC:Hid (wt.heap[w.heap.size+1+1]?=some (.cells #[.bool l.st,.slice none 0 0,.slice none 0 0,.slice none 0 0,.slice none 0 0,.int .i64 0,.bool false,.slice none 0 0] 102 (0,0))):=HC
 go_wp2_with (refine fJ rfl 25 (.tmp 10) (.tmp 9) rfl (w.heap.size+1+1) 1 rfl (.slice (some ⟨W1.heap.size,0,none⟩) l.nT l.nT) rfl 1 rfl 102 _ HC.out CR (Nat.le_of_ble_eq_true rfl) (by simp [Value.cells,Value.oneCell',Rnd.cells,Cfg.cells,Cnt.cells]) ?_)
 intro W3 hP
 replace hP:=hP.cast (cs':=#[.bool l.st,.slice (some ⟨W1.heap.size,0,none⟩) l.nT l.nT,.slice none 0 0,.slice none 0 0,.slice none 0 0,.int .i64 0,.bool false,.slice none 0 0]) rfl
 replace HX:Hid (g5 w l.cells #[.bool false,.slice none 0 0,.slice none 0 0,.slice none 0 0,.slice none 0 0,.int .i64 0,.bool false,.slice none 0 0] #[.bool l.st,.slice (some ⟨W1.heap.size,0,none⟩) l.nT l.nT,.slice none 0 0,.slice none 0 0,.slice none 0 0,.int .i64 0,.bool false,.slice none 0 0] 91 102 W3):=HX.out.put hP
 have T3:Touch [w.heap.size+1,w.heap.size+1+1] wt W3:=hP.to.mono (fun x hx=>by simp at hx;simp [hx])
 clear hP HC 
 have c2:W3.cell? ⟨w.heap.size,2,none⟩=some (.slice l.aU l.nU l.cU):=fG HX.out.a 2
 go_wp2_with fail
 refine (pg l.aU l.nU l.cU l.uA l.uL l.uC l.uz _ HS.out.u (HR.out.u.up HX.out.bel) (fun i hi=>(HR.out.z i hi).up HX.out.bel) HS.out.z).mono ?_
 rintro e wu ⟨G,rfl,rU,hb⟩
 clear c2
 have sU:=HX.out.sz
 replace HX:Hid (g5 w l.cells #[.bool false,.slice none 0 0,.slice none 0 0,.slice none 0 0,.slice none 0 0,.int .i64 0,.bool false,.slice none 0 0] #[.bool l.st,.slice (some ⟨W1.heap.size,0,none⟩) l.nT l.nT,.slice none 0 0,.slice none 0 0,.slice none 0 0,.int .i64 0,.bool false,.slice none 0 0] 91 102 wu):=HX.out.up hb
 have T4:Touch [w.heap.size+1,w.heap.size+1+1] W3 wu:=Touch.gY hb
 clear hb
 have HC:=HX.out.c
 replace HC:Hid (wu.heap[w.heap.size+1+1]?=some (.cells #[.bool l.st,.slice (some ⟨W1.heap.size,0,none⟩) l.nT l.nT,.slice none 0 0,.slice none 0 0,.slice none 0 0,.int .i64 0,.bool false,.slice none 0 0] 102 (0,0))):=HC
 go_wp2_with (refine fJ rfl 87 (.tmp 14) (.tmp 13) rfl (w.heap.size+1+1) 2 rfl (.slice (some ⟨W3.heap.size,0,none⟩) l.nU l.nU) rfl 1 rfl 102 _ HC.out vM (Nat.le_of_ble_eq_true rfl) (by simp [Value.cells,Value.oneCell',Rnd.cells,Cfg.cells,Cnt.cells]) ?_)
 intro W5 hP
 replace hP:=hP.cast (cs':=#[.bool l.st,.slice (some ⟨W1.heap.size,0,none⟩) l.nT l.nT,.slice (some ⟨W3.heap.size,0,none⟩) l.nU l.nU,.slice none 0 0,.slice none 0 0,.int .i64 0,.bool false,.slice none 0 0]) rfl
 replace HX:Hid (g5 w l.cells #[.bool false,.slice none 0 0,.slice none 0 0,.slice none 0 0,.slice none 0 0,.int .i64 0,.bool false,.slice none 0 0] #[.bool l.st,.slice (some ⟨W1.heap.size,0,none⟩) l.nT l.nT,.slice (some ⟨W3.heap.size,0,none⟩) l.nU l.nU,.slice none 0 0,.slice none 0 0,.int .i64 0,.bool false,.slice none 0 0] 91 102 W5):=HX.out.put hP
 have T5:Touch [w.heap.size+1,w.heap.size+1+1] wu W5:=hP.to.mono (fun x hx=>by simp at hx;simp [hx])
 clear hP HC 
 have c3:W5.cell? ⟨w.heap.size,3,none⟩=some (.slice l.R.aQ l.R.nQ l.R.cQ):=fG HX.out.a 3
 have c4:W5.cell? ⟨w.heap.size,4,none⟩=some (.slice l.R.aD l.R.nD l.R.cD):=fG HX.out.a 4
 have c5:W5.cell? ⟨w.heap.size,5,none⟩=some (.int .i64 l.R.turn):=fG HX.out.a 5
 have c6:W5.cell? ⟨w.heap.size,6,none⟩=some (.bool l.R.fresh):=fG HX.out.a 6
 have c7:W5.cell? ⟨w.heap.size,7,none⟩=some (.slice l.R.aS l.R.nS l.R.cS):=fG HX.out.a 7
 go_wp2_with fail
 refine (uS l.R _ HS.out.r (HR.out.r.up HX.out.bel)).mono ?_
 rintro e wr ⟨gQ,gD,gS,G2,rfl,hgQ,rR,hb⟩
 clear c3 c4 c5 c6 c7
 have sR:=HX.out.sz
 replace HX:Hid (g5 w l.cells #[.bool false,.slice none 0 0,.slice none 0 0,.slice none 0 0,.slice none 0 0,.int .i64 0,.bool false,.slice none 0 0] #[.bool l.st,.slice (some ⟨W1.heap.size,0,none⟩) l.nT l.nT,.slice (some ⟨W3.heap.size,0,none⟩) l.nU l.nU,.slice none 0 0,.slice none 0 0,.int .i64 0,.bool false,.slice none 0 0] 91 102 wr):=HX.out.up hb
 have T6:Touch [w.heap.size+1,w.heap.size+1+1] W5 wr:=Touch.gY hb
 clear hb
 have HC:=HX.out.c
 replace HC:Hid (wr.heap[w.heap.size+1+1]?=some (.cells #[.bool l.st,.slice (some ⟨W1.heap.size,0,none⟩) l.nT l.nT,.slice (some ⟨W3.heap.size,0,none⟩) l.nU l.nU,.slice none 0 0,.slice none 0 0,.int .i64 0,.bool false,.slice none 0 0] 102 (0,0))):=HC
 go_wp2_with (refine fJ rfl 100 (.tmp 18) (.tmp 17) rfl (w.heap.size+1+1) 3 rfl (.agg (l.R.copy gQ gD gS G2).cells) rfl 5 rfl 102 _ HC.out tO (Nat.le_of_ble_eq_true rfl) (by simp [Value.cells,Value.oneCell',Rnd.cells,Cfg.cells,Cnt.cells]) ?_)
 intro W7 hP
 replace hP:=hP.cast (cs':=#[.bool l.st,.slice (some ⟨W1.heap.size,0,none⟩) l.nT l.nT,.slice (some ⟨W3.heap.size,0,none⟩) l.nU l.nU,.slice (some ⟨gQ,0,none⟩) l.R.nQ l.R.nQ,.slice (some ⟨gD,0,none⟩) l.R.nD l.R.nD,.int .i64 l.R.turn,.bool l.R.fresh,.slice (some ⟨gS,0,none⟩) l.R.nS l.R.nS]) rfl
 replace HX:Hid (g5 w l.cells #[.bool false,.slice none 0 0,.slice none 0 0,.slice none 0 0,.slice none 0 0,.int .i64 0,.bool false,.slice none 0 0] #[.bool l.st,.slice (some ⟨W1.heap.size,0,none⟩) l.nT l.nT,.slice (some ⟨W3.heap.size,0,none⟩) l.nU l.nU,.slice (some ⟨gQ,0,none⟩) l.R.nQ l.R.nQ,.slice (some ⟨gD,0,none⟩) l.R.nD l.R.nD,.int .i64 l.R.turn,.bool l.R.fresh,.slice (some ⟨gS,0,none⟩) l.R.nS l.R.nS] 91 102 W7):=HX.out.put hP
 have T7:Touch [w.heap.size+1,w.heap.size+1+1] wr W7:=hP.to.mono (fun x hx=>by simp at hx;simp [hx])
 clear hP HC 
 obtain ⟨l2,e2⟩:∃ l2,(⟨l.st,some ⟨W1.heap.size,0,none⟩,l.nT,l.nT,l.t,some ⟨W3.heap.size,0,none⟩,l.nU,l.nU,fun i=>some ⟨G i,0,none⟩,l.uL,l.uL,l.uz,l.R.copy gQ gD gS G2⟩:Lng)=l2:=⟨_,rfl⟩
 have e3:#[.bool l.st,.slice (some ⟨W1.heap.size,0,none⟩) l.nT l.nT,.slice (some ⟨W3.heap.size,0,none⟩) l.nU l.nU,.slice (some ⟨gQ,0,none⟩) l.R.nQ l.R.nQ,.slice (some ⟨gD,0,none⟩) l.R.nD l.R.nD,.int .i64 l.R.turn,.bool l.R.fresh,.slice (some ⟨gS,0,none⟩) l.R.nS l.R.nS]=l2.cells:=by rw [←e2];rfl
 rw [e3] at HX
 have HC:Hid (W7.heap[w.heap.size+1+1]?=some (.cells l2.cells 102 (0,0))):=HX.out.c
 have HD:Hid (W7.heap[w.heap.size+1]?=some (.cells #[.bool false,.slice none 0 0,.slice none 0 0,.slice none 0 0,.slice none 0 0,.int .i64 0,.bool false,.slice none 0 0] 102 (0,0))):=HX.out.b
 have HL:Hid (∀ j,j<8→W7.cell? ⟨w.heap.size+1+1,0+j,none⟩=(l2.cells)[j]?):=fun j _=>by rw [Nat.zero_add];exact fG HC.out j
 go_wp2_with (first | refine fP rfl 102 8 _ Tryz.underlying102 rfl ix (.tmp 3) rfl (w.heap.size+1+1) 0 rfl (l2.cells) rfl HL.out ?_ | refine fJ rfl 102 (.tmp 2) (.tmp 19) rfl (w.heap.size+1) 0 rfl (.agg l2.cells) rfl 8 rfl 102 _ HD.out ix (Nat.le_of_ble_eq_true rfl) (Lng.lL _) ?_)
 intro W8 hP
 replace hP:Put W7 W8 (w.heap.size+1) l2.cells 102:=hP.cast rfl
 have T8:Touch [w.heap.size+1,w.heap.size+1+1] W7 W8:=hP.to.mono (fun x hx=>by simp at hx;simp [hx])
 have HK:Hid (W8.heap[w.heap.size+1]?=some (.cells l2.cells 102 (0,0))):=hP.blk
 have HB:Hid (Below w.heap.size w W8):=(HX.out.out hP).bel
 clear hP HC HD HL
 go_wp2_with fail
 have hlow:∀ x∈[w.heap.size+1,w.heap.size+1+1],x<w.heap.size+1+1+1:=by intro x hx;simp at hx;omega
 have qT:VG 2 W8 W1.heap.size (some ⟨W1.heap.size,0,none⟩) l.nT (fun i=>.int .i64 (l.t i)):=(rT.vg (Nat.le_refl _)).low (((((T3.trans T4).trans T5).trans T6).trans T7).trans T8) (fun x hx=>by have:=hlow x hx;omega)
 have tU:=(((T5.trans T6).trans T7).trans T8)
 have tR:=(T7.trans T8)
 have lU:=rU.top.lt
 have lR:=rR.q.lt
 have hT1:=T3.size
 have hT2:=T4.size
 have hT3:=T5.size
 have hT4:=T6.size
 have hTt:=rT.lt
 refine bodyPost_ret (iW Tryz.results64 8 _ Tryz.underlying102 rfl ix _ _ (w.heap.size+1) l2.cells rfl 102 HK.out rfl) rfl ⟨l2,rfl,?_,?_,HB.out⟩
 ·
  rw [←e2]
  exact ⟨rfl,rfl,rfl,rfl,rfl,rfl,⟨rfl,rfl,rfl,rfl,rfl,rfl,rfl,rfl,rfl⟩⟩
 rw [←e2]
 have kU:∀ {g:Nat},w.heap.size+1+1+1≤g→g<wu.heap.size→W8.heap[g]?=wu.heap[g]?:=fun h1 h2=>tU.block _ h2 (by simp;omega)
 have kR:∀ {g:Nat},w.heap.size+1+1+1≤g→g<wr.heap.size→W8.heap[g]?=wr.heap[g]?:=fun h1 h2=>tR.block _ h2 (by simp;omega)
 have oU:=rU.low
 have oR:=rR.lt
 have oS:∀ i,i<l.R.nS→gS<G2 i:=rR.s.low
 refine ⟨qT.mono (by omega),(rU.top.ir (kU (by omega) lU)).vg (by omega),fun i hi=>((rU.row i hi).ir (kU (by have:=oU i hi;omega) (rU.row i hi).lt)).vg (by have:=oU i hi;omega),(rR.q.ir (kR (by omega) lR)).vg (by omega),(rR.d.ir (kR (by omega) rR.d.lt)).vg (by omega),(rR.s.top.ir (kR (by omega) rR.s.top.lt)).vg (by omega),fun i hi=>((rR.s.row i hi).ir (kR (by have:=oS i hi;omega) (rR.s.row i hi).lt)).vg (by have:=oS i hi;omega),?_⟩
 exact CP (gS:=gS) (by omega) (fun i hi=>⟨by have:=oU i hi;omega,(rU.row i hi).lt⟩) rU.inc (by omega) (by omega) (by omega) (fun i hi=>by have:=oS i hi;omega) rR.s.inc
def OG (t:TypeId) (sz:Nat) (w:World) (base:Nat) (a:Option Addr) (n c:Nat) (xs:List Value):Prop:=w.ownsRow base t sz (.slice a n c) n xs
section
variable {t : TypeId} {sz : Nat} {w w' : World} {base base' : Nat} {a : Option Addr} {n c : Nat} {xs : List Value} {S : List Nat}
theorem OG.cap (h:OG t sz w base a n c xs):n≤c:=by
 rcases h.2 with ⟨e,h0⟩ | ⟨g,cap,cur,e,_,_,h9,_⟩
 ·
  omega
 cases e
 exact h9
theorem OG.up (h:OG t sz w base a n c xs) (hb:Below w.heap.size w w'):OG t sz w' base a n c xs:=by
 refine ⟨h.1,h.2.imp id ?_⟩
 rintro ⟨g,cap,cur,e,hg,hbk,hr⟩
 exact ⟨g,cap,cur,e,hg,(hb.block g (fH hbk)).trans hbk,hr⟩
theorem OG.mono (h:OG t sz w base a n c xs) (hb:base'≤base):OG t sz w base' a n c xs:=by
 refine ⟨h.1,h.2.imp id ?_⟩
 rintro ⟨g,cap,cur,e,hg,hr⟩
 exact ⟨g,cap,cur,e,by omega,hr⟩
theorem OG.blk (h:OG t sz w base a n c xs):∀ x∈ij a,base≤x∧x<w.heap.size:=by
 intro x hx
 rcases h.2 with ⟨e,_⟩ | ⟨g,cap,cur,e,hg,hbk,_⟩
 ·
  cases e
  simp [ij] at hx
 cases e
 simp [ij] at hx
 subst hx
 exact ⟨hg,fH hbk⟩
theorem OG.type (h:OG t sz w base a n c xs):∀ x∈ij a,∃ cs,w.heap[x]?=some (.cells cs t (0,0)):=by
 intro x hx
 rcases h.2 with ⟨e,_⟩ | ⟨g,cap,cur,e,hg,hbk,_⟩
 ·
  cases e
  simp [ij] at hx
 cases e
 simp [ij] at hx
 subst hx
 exact ⟨cur,hbk⟩
theorem OG.fK (h:OG t sz w base a n c xs) (ht:Touch S w w') (hp:∀ x∈ij a,x∉S):OG t sz w' base a n c xs:=by
 refine ⟨h.1,?_⟩
 rcases h.2 with h2 | ⟨g,cap,cur,e,hg,hbk,hr⟩
 ·
  exact .inl h2
 cases e
 exact .inr ⟨g,c,cur,rfl,hg,(ht.block g (fH hbk) (hp g (by simp [ij]))).trans hbk,hr⟩
theorem OG.low (h:OG t sz w base a n c xs) (ht:Touch S w w') (hS:∀ x∈S,x<base):OG t sz w' base a n c xs :=
 h.fK ht (fun x hx hy=>by have:=(h.blk x hx).1;have:=hS x hy;omega)
theorem OG.j7 (h:OG t sz w base a n c xs) {g:Nat} {cs:Array Value} {t':TypeId} (hne:t≠t') (hg:w.heap[g]?=some (.cells cs t' (0,0))):g∉ij a:=by
 intro hx
 obtain ⟨cs',h1⟩:=h.type g hx
 rw [hg] at h1
 simp at h1
 exact hne h1.2.symm
theorem OG.vg {f:Nat→Value} (h:OG t sz w base a n c xs) (hf:∀ i,i<n*sz→xs[i]?=some (f i)):VG t w base a (n*sz) f:=by
 rcases h.2 with ⟨e,h0⟩ | ⟨g,cap,cur,e,hg,hbk,hn,hm,hs,ht⟩
 ·
  exact .inl (by rw [h0];simp)
 cases e
 refine .inr ⟨g,0,rfl,hg,cur,hbk,?_,fun i hi=>?_⟩
 ·
  rw [hs,Nat.zero_add]
  exact Nat.mul_le_mul_right _ hn
 rw [Nat.zero_add,←Array.getElem?_toList,←List.getElem?_take_of_lt hi,ht]
 exact hf i hi
theorem OG.vt {f:Nat→Value} (h:OG t sz w base a n c xs) (hf:∀ i,i<n*sz→xs[i]?=some (f i)):VT t w base a (n*sz) f:=by
 rcases h.2 with ⟨e,h0⟩ | ⟨g,cap,cur,e,hg,hbk,hn,hm,hs,ht⟩
 ·
  exact .inl (by rw [h0];simp)
 cases e
 refine .inr ⟨g,rfl,hg,cur,hbk,?_,fun i hi=>?_⟩
 ·
  rw [hs]
  exact Nat.mul_le_mul_right _ hn
 rw [←Array.getElem?_toList,←List.getElem?_take_of_lt hi,ht]
 exact hf i hi
end
theorem OG.apart {t t':TypeId} {sz sz':Nat} {w:World} {base base':Nat} {a a':Option Addr} {n n' c c':Nat} {xs xs':List Value} (h:OG t sz w base a n c xs) (k:OG t' sz' w base' a' n' c' xs') (hne:t≠t'):∀ x∈ij a,x∉ij a':=by
 intro x hx hy
 obtain ⟨cs,h1⟩:=h.type x hx
 obtain ⟨cs',h2⟩:=k.type x hy
 rw [h1] at h2
 simp at h2
 exact hne h2.2
theorem OG.nil (t:TypeId) (sz:Nat) (w:World) (base:Nat):OG t sz w base none 0 0 []:=World.ownsRow_nil _ _ _ _
theorem vJ (n:Nat) (f:Nat→Int) (i:Nat) (h:i<n):(j9 n f)[i]?=some (.int .i64 (f i)):=by
 unfold j9
 rw [List.getElem?_map,List.getElem?_range h]
 rfl
theorem OI.vgI {w:World} {base:Nat} {a:Option Addr} {n c:Nat} {f:Nat→Int} (h:OI w base a n c f):VG 2 w base a n fun i=>.int .i64 (f i):=by
 have h2:OG 2 1 w base a n c (j9 n f):=h
 have:=h2.vg (f:=fun i=>.int .i64 (f i)) (fun i hi=>vJ n f i (by omega))
 rwa [Nat.mul_one] at this
theorem OI.low {w w':World} {base:Nat} {a:Option Addr} {n c:Nat} {f:Nat→Int} {S:List Nat} (h:OI w base a n c f) (ht:Touch S w w') (hS:∀ x∈S,x<base):OI w' base a n c f:=OG.low (t:=2) (sz:=1) h ht hS
theorem OI.fK {w w':World} {base:Nat} {a:Option Addr} {n c:Nat} {f:Nat→Int} {S:List Nat} (h:OI w base a n c f) (ht:Touch S w w') (hp:∀ x∈ij a,x∉S):OI w' base a n c f:=OG.fK (t:=2) (sz:=1) h ht hp
theorem Touch.pv {w w':World} {v:Value} {a:Option Addr} {n c:Nat} (h:w.grownBy w' (Value.slice a n c).ownBlock):Touch (ij a) w w' :=
 ⟨h.os,h.tape,h.output,h.size,fun k hk hn=>h.block k hk (fun e=>hn (by
  cases a with
  | none=>simp [Value.ownBlock] at e
  | some x=>simp [Value.ownBlock] at e;simp [ij,e]))⟩
theorem ku {w:World} {base:Nat} {a:Option Addr} {n c:Nat} {xs:List Value} (t e:TypeId) (z:Value) (sz bytes:Nat) (hinfo:(Tryz.prog.info? e).map (fun i=>(i.zero,i.size,i.bytes))=some (some z,sz,bytes)) (hu:Tryz.prog.underlying t=some (.slice e)) (hz:z.cells.size=sz) (hsz:0<sz) (hby:bytes≤1000)
  (h:OG e sz w base a n c xs) (hl:n≤1048576) (hb:base≤w.heap.size) (cs:Array Value) (hcs:cs.size=sz) (h1:cs.all (·.oneCell')=true) :
  ∃ g c' W,(Builtin.append_ #[t,t] t #[.slice a n c,.slice (some ⟨w.heap.size,0,none⟩) 1 1]).run Tryz.prog (w.alloc (.cells cs e))=.ok (.slice (some ⟨g,0,none⟩) (n+1) c') W∧OG e sz W base (some ⟨g,0,none⟩) (n+1) c' (xs++cs.toList)∧Touch (ij a) w W∧(g∈ij a∨w.heap.size≤g):=by
 obtain ⟨i0,hi,hz0,hz1,hz2⟩:=info_parts hinfo
 have hA:Below w.heap.size w (w.alloc (.cells cs e)):=(Below.refl _ _).alloc (Nat.le_refl _) _
 have hnew:=fG (fL w (.cells cs e))
 have hbb:(n+1)*bytes≤140737488355328:=by
  have:=Nat.mul_le_mul (show n+1≤1048577 by omega) hby
  omega
 obtain ⟨v',W,hr,h2,h3,h4,h5⟩:=run_append_own_at (P:=Tryz.prog) (w.alloc (.cells cs e)) base t t e i0 z sz bytes hu hi hz0 hz1 hz2 hz hsz (.slice a n c) n xs (h.up hA) ⟨w.heap.size,0,none⟩ 1 1 cs.toList (by rw [Array.length_toList,hcs,Nat.one_mul]) (fun j u hj=>by
  have e0:(⟨w.heap.size,0,none⟩:Addr).add j=⟨w.heap.size,j,none⟩:=by unfold Addr.add;split <;> simp_all
  rw [e0,hnew j,←Array.getElem?_toList]
  exact hj) (fun u hu=>(Array.all_eq_true_iff_forall_mem.1 h1) u (by simpa using hu)) (by unfold maxLen;omega) hbb (by simp;omega)
 rcases h2.2 with ⟨_,h0⟩ | ⟨g,cap,cur,rfl,_⟩
 ·
  omega
 refine ⟨g,cap,W,hr,h2,Touch.pv (v:=.slice a n c) ((World.grownBy_alloc w _ _).trans h3),?_⟩
 rcases h5 with h5 | h5
 ·
  left
  cases a with
  | none=>simp [Value.ownBlock] at h5
  | some x=>simp [Value.ownBlock] at h5;simp [ij,h5]
 right
 simp only [Value.ownBlock,Option.some.injEq] at h5
 rw [h5];simp
def sl (n:Nat) (A:Nat→Option Addr) (L C:Nat→Nat):List Value:=(List.range n).map fun i=>.slice (A i) (L i) (C i)
theorem yC (n:Nat) (A:Nat→Option Addr) (L C:Nat→Nat):sl (n+1) A L C=sl n A L C++[.slice (A n) (L n) (C n)]:=by simp [sl,List.range_succ]
theorem AE {n:Nat} {A A':Nat→Option Addr} {L L' C C':Nat→Nat} (h:∀ i,i<n→A i=A' i∧L i=L' i∧C i=C' i):sl n A L C=sl n A' L' C':=by
 unfold sl
 refine List.map_congr_left fun i hi=>?_
 obtain ⟨h1,h2,h3⟩:=h i (List.mem_range.1 hi)
 rw [h1,h2,h3]
theorem wK (n:Nat) (A:Nat→Option Addr) (L C:Nat→Nat) (i:Nat) (h:i<n):(sl n A L C)[i]?=some (.slice (A i) (L i) (C i)):=by
 unfold sl
 rw [List.getElem?_map,List.getElem?_range h]
 rfl
theorem lf (a:Option Addr):(ij a).Nodup:=by cases a <;> simp [ij]
theorem n8 (a:Option Addr) (n:Nat):(iS a n).Nodup:=by
 unfold iS
 split
 ·
  exact List.nodup_nil
 cases a <;> simp
theorem kr (a:Option Addr) (n:Nat):List.Sublist (gF a n) (ij a):=by
 unfold gF
 split
 ·
  exact List.nil_sublist _
 exact List.Sublist.refl _
theorem qA {f:Nat→List Nat}:∀ n,(∀ i,i<n→(f i).Nodup)→(∀ i j,i<n→j<n→i≠j→∀ x∈f i,x∉f j)→((List.range n).flatMap f).Nodup:=by
 intro n
 induction n with
 | zero=>intro _ _;simp
 | succ n ih =>
  intro h1 h2
  rw [List.range_succ,List.flatMap_append]
  simp only [List.flatMap_cons,List.flatMap_nil,List.append_nil]
  refine List.nodup_append.2 ⟨ih (fun i hi=>h1 i (by omega)) (fun i j hi hj=>h2 i j (by omega) (by omega)),h1 n (by omega),fun x hx y hy e=>?_⟩
  subst e
  simp only [List.mem_flatMap,List.mem_range] at hx
  obtain ⟨i,hi,hx⟩:=hx
  exact h2 i n (by omega) (by omega) (by omega) x hx hy
def flO (n:Nat) (A:Nat→Option Addr):List Nat:=(List.range n).flatMap fun i=>ij (A i)
theorem lz {n:Nat} {A:Nat→Option Addr} {x:Nat}:x∈flO n A↔∃ i,i<n∧x∈ij (A i):=by
 unfold flO
 simp
def Rnd.lh (R:Rnd):List Nat:=iS R.aQ R.nQ++(iS R.aD R.nD++flO R.nS R.A)
theorem jc.nd {w:World} {base:Nat} {R:Rnd} (h:jc w base R):R.lh.Nodup:=by
 refine List.nodup_append.2 ⟨n8 _ _,List.nodup_append.2 ⟨n8 _ _,qA _ (fun i _=>lf _) h.zz,fun x hx y hy e=>?_⟩,fun x hx y hy e=>?_⟩
 ·
  subst e
  obtain ⟨i,hi,hy⟩:=lz.1 hy
  exact h.dz i hi x hx hy
 subst e
 rcases List.mem_append.1 hy with hy | hy
 ·
  exact h.own.qd x hx hy
 obtain ⟨i,hi,hy⟩:=lz.1 hy
 exact h.qz i hi x hx hy
theorem jc.blk {w:World} {base:Nat} {R:Rnd} (h:jc w base R):∀ x∈R.lh,base≤x∧x<w.heap.size:=by
 intro x hx
 rcases List.mem_append.1 hx with hx | hx
 ·
  exact h.own.q.blk x hx
 rcases List.mem_append.1 hx with hx | hx
 ·
  exact h.own.d.blk x hx
 obtain ⟨i,hi,hx⟩:=lz.1 hx
 exact (h.z i hi).blk x hx
def Lng.lh (l:Lng):List Nat:=(ij l.aT++l.R.lh)++flO l.nU l.uA
structure iq (w:World) (base:Nat) (l:Lng):Prop where
 t:OI w base l.aT l.nT l.cT l.t
 u:OG 25 1 w base l.aU l.nU l.cU (sl l.nU l.uA l.uL l.uC)
 z:∀ i,i<l.nU→OI w base (l.uA i) (l.uL i) (l.uC i) (l.uz i)
 r:jc w base l.R
 nd:l.lh.Nodup
 su:∀ x∈iS l.R.aS l.R.nS,x∉ij l.aU
theorem iq.g {w:World} {base:Nat} {l:Lng} (h:iq w base l):gO w base l:=by
 refine ⟨h.t.vgI,?_,fun i hi=>(h.z i hi).vgI,h.r.own.q.g,h.r.own.d.g,h.r.own.s.g,fun i hi=>(h.r.z i hi).vgI,?_⟩
 ·
  have:=h.u.vg (f:=fun i=>.slice (l.uA i) (l.uL i) (l.uC i)) (fun i hi=>wK _ _ _ _ i (by omega))
  rwa [Nat.mul_one] at this
 have hp:l.jh.Perm ((gF l.aT l.nT++(gF l.R.aQ l.R.nQ++(gF l.R.aD l.R.nD++mi l.R.nS l.R.A l.R.L)))++mi l.nU l.uA l.uL):=by
  unfold Lng.jh
  rw [List.append_assoc]
  exact List.Perm.append_left _ List.perm_append_comm
 refine hp.nodup_iff.2 (List.Sublist.nodup ?_ h.nd)
 have hs:∀ (n:Nat) (A:Nat→Option Addr) (L:Nat→Nat),List.Sublist (mi n A L) (flO n A):=by
  intro n A L
  unfold mi flO
  induction n with
  | zero=>exact List.Sublist.refl _
  | succ n ih =>
   rw [List.range_succ,List.flatMap_append,List.flatMap_append]
   refine ih.append ?_
   simp only [List.flatMap_cons,List.flatMap_nil,List.append_nil]
   exact kr _ _
 exact ((kr _ _).append ((List.Sublist.refl _).append ((List.Sublist.refl _).append (hs _ _ _)))).append (hs _ _ _)
theorem iq.blk {w:World} {base:Nat} {l:Lng} (h:iq w base l):∀ x∈l.lh,base≤x∧x<w.heap.size:=by
 intro x hx
 unfold Lng.lh at hx
 simp only [List.mem_append] at hx
 rcases hx with (hx | hx) | hx
 ·
  exact h.t.blk x hx
 ·
  exact h.r.blk x hx
 obtain ⟨i,hi,hx⟩:=lz.1 hx
 exact (h.z i hi).blk x hx
theorem jc.upZ {w w':World} {base:Nat} {R:Rnd} (h:jc w base R) (hb:Below w.heap.size w w'):jc w' base R :=
 ⟨⟨h.own.q.up hb,h.own.d.up hb,h.own.s.up hb,fun i hi=>(h.own.z i hi).up hb,h.own.qd,h.own.qz,h.own.dz,h.own.zz⟩,fun i hi=>(h.z i hi).up hb,h.qz,h.dz,h.zz⟩
theorem jc.tj {w:World} {base base':Nat} {R:Rnd} (h:jc w base R) (hb:base'≤base):jc w base' R :=
 ⟨⟨h.own.q.mono hb,h.own.d.mono hb,h.own.s.mono hb,fun i hi=>(h.own.z i hi).mono hb,h.own.qd,h.own.qz,h.own.dz,h.own.zz⟩,fun i hi=>(h.z i hi).mono hb,h.qz,h.dz,h.zz⟩
theorem VS.fK {w w':World} {base:Nat} {a:Option Addr} {n:Nat} {f:Nat→Value} {S:List Nat} (h:VS w base a n f) (ht:Touch S w w') (hp:∀ x∈iS a n,x∉S):VS w' base a n f:=by
 rcases h with h | ⟨g,rfl,hg,hr⟩
 ·
  exact .inl h
 by_cases h0:n=0
 ·
  exact .inl h0
 exact .inr ⟨g,rfl,hg,hr.ir (ht.block g hr.lt (hp g (lF h0)))⟩
theorem VS.mi {w:World} {base:Nat} {a:Option Addr} {n:Nat} {f:Nat→Value} (h:VS w base a n f):∀ x∈iS a n,(base≤x∧x<w.heap.size)∧∃ cs,w.heap[x]?=some (.cells cs 25 (0,0)):=by
 intro x hx
 unfold iS at hx
 split at hx
 ·
  simp at hx
 rcases h with h | ⟨g,rfl,hg,hr⟩
 ·
  contradiction
 simp at hx
 subst hx
 obtain ⟨cs,hc,_⟩:=hr
 exact ⟨⟨hg,fH hc⟩,cs,hc⟩
theorem jc.yv {w w':World} {base:Nat} {R:Rnd} {S:List Nat} (h:jc w base R) (ht:Touch S w w') (h1:∀ x∈R.lh,x∉S) (h2:∀ x∈iS R.aS R.nS,x∉S):jc w' base R:=by
 have hq:∀ x∈iS R.aQ R.nQ,x∉S:=fun x hx=>h1 x (List.mem_append_left _ hx)
 have hd:∀ x∈iS R.aD R.nD,x∉S:=fun x hx=>h1 x (List.mem_append_right _ (List.mem_append_left _ hx))
 have hz:∀ i,i<R.nS→∀ x∈ij (R.A i),x∉S:=fun i hi x hx=>h1 x (List.mem_append_right _ (List.mem_append_right _ (lz.2 ⟨i,hi,hx⟩)))
 exact ⟨⟨h.own.q.fK ht hq,h.own.d.fK ht hd,h.own.s.fK ht h2,fun i hi=>(h.own.z i hi).fK ht (fun x hx=>hz i hi x (jy hx)),h.own.qd,h.own.qz,h.own.dz,h.own.zz⟩,fun i hi=>(h.z i hi).fK ht (hz i hi),h.qz,h.dz,h.zz⟩
theorem jc.lowZ {w w':World} {base:Nat} {R:Rnd} {S:List Nat} (h:jc w base R) (ht:Touch S w w') (hS:∀ x∈S,x<base):jc w' base R :=
 h.yv ht (fun x hx hy=>by have:=(h.blk x hx).1;have:=hS x hy;omega) (fun x hx hy=>by have:=(h.own.s.mi x hx).1;have:=hS x hy;omega)
theorem iq.up {w w':World} {base:Nat} {l:Lng} (h:iq w base l) (hb:Below w.heap.size w w'):iq w' base l:=⟨h.t.up hb,h.u.up hb,fun i hi=>(h.z i hi).up hb,h.r.upZ hb,h.nd,h.su⟩
theorem iq.mono {w:World} {base base':Nat} {l:Lng} (h:iq w base l) (hb:base'≤base):iq w base' l:=⟨h.t.mono hb,h.u.mono hb,fun i hi=>(h.z i hi).mono hb,h.r.tj hb,h.nd,h.su⟩
theorem iq.low {w w':World} {base:Nat} {l:Lng} {S:List Nat} (h:iq w base l) (ht:Touch S w w') (hS:∀ x∈S,x<base):iq w' base l:=⟨h.t.low ht hS,h.u.low ht hS,fun i hi=>(h.z i hi).low ht hS,h.r.lowZ ht hS,h.nd,h.su⟩
theorem iq.iU {w w':World} {base:Nat} {l:Lng} {S:List Nat} (h:iq w base l) (ht:Touch S w w') (h1:∀ x∈l.lh,x∉S) (h2:∀ x∈ij l.aU,x∉S) (h3:∀ x∈iS l.R.aS l.R.nS,x∉S):iq w' base l:=by
 have k1:∀ x∈ij l.aT,x∉S:=fun x hx=>h1 x (List.mem_append_left _ (List.mem_append_left _ hx))
 have k2:∀ x∈l.R.lh,x∉S:=fun x hx=>h1 x (List.mem_append_left _ (List.mem_append_right _ hx))
 have k3:∀ i,i<l.nU→∀ x∈ij (l.uA i),x∉S:=fun i hi x hx=>h1 x (List.mem_append_right _ (lz.2 ⟨i,hi,hx⟩))
 exact ⟨h.t.fK ht k1,h.u.fK ht h2,fun i hi=>(h.z i hi).fK ht (k3 i hi),h.r.yv ht k2 h3,h.nd,h.su⟩
theorem jc.type2 {w:World} {base:Nat} {R:Rnd} (h:jc w base R):∀ x∈R.lh,∃ cs,w.heap[x]?=some (.cells cs 2 (0,0)):=by
 intro x hx
 rcases List.mem_append.1 hx with hx | hx
 ·
  exact h.own.q.g.type x hx
 rcases List.mem_append.1 hx with hx | hx
 ·
  exact h.own.d.g.type x hx
 exact dJ
theorem iq.type2 {w:World} {base:Nat} {l:Lng} (h:iq w base l):∀ x∈l.lh,∃ cs,w.heap[x]?=some (.cells cs 2 (0,0)):=by
 intro x hx
 unfold Lng.lh at hx
 simp only [List.mem_append] at hx
 rcases hx with (hx | hx) | hx
 ·
  exact OG.type (t:=2) (sz:=1) h.t x hx
 ·
  exact h.r.type2 x hx
 exact dJ
theorem iq.box {w w':World} {base g:Nat} {l:Lng} {cs:Array Value} {t:TypeId} (h:iq w base l) (hg:w.heap[g]?=some (.cells cs t (0,0))) (ht2:t≠2) (hts:t≠25) (ht:Touch [g] w w'):iq w' base l:=by
 refine h.iU ht (fun x hx hy=>?_) (fun x hx hy=>?_) (fun x hx hy=>?_)
 ·
  obtain ⟨cs',h1⟩:=h.type2 x hx
  rw [List.mem_singleton.1 hy,hg] at h1
  simp at h1
  exact ht2 h1.2
 ·
  obtain ⟨cs',h1⟩:=h.u.type x hx
  rw [List.mem_singleton.1 hy,hg] at h1
  simp at h1
  exact hts h1.2
 obtain ⟨_,cs',h1⟩:=h.r.own.s.mi x hx
 rw [List.mem_singleton.1 hy,hg] at h1
 simp at h1
 exact hts h1.2
theorem jg {f g:Nat→List Nat}:∀ {k:Nat},(∀ i,i<k→f i=g i)→(List.range k).flatMap f=(List.range k).flatMap g:=by
 intro k h
 induction k with
 | zero=>rfl
 | succ k ih =>
  rw [List.range_succ,List.flatMap_append,List.flatMap_append,ih (fun i hi=>h i (by omega))]
  simp only [List.flatMap_cons,List.flatMap_nil,List.append_nil]
  rw [h k (by omega)]
def Lng.more (l:Lng) (k:Nat) (aU:Option Addr) (cU:Nat) (a:Option Addr) (c:Nat):Lng:={ l with aU:=aU,nU:=k+1,cU:=cU,uA:=fun i=>if i=k then a else l.uA i,uC:=fun i=>if i=k then c else l.uC i }
theorem iq.more {V V1 W:World} {base k g c2 c:Nat} {l:Lng} {a:Option Addr} (h:iq V base l) (hk:l.nU=k) (hb:Below V.heap.size V V1) (hbase:base≤V.heap.size) (ho:OI V1 V.heap.size a (l.uL k) c (l.uz k))
  (hu:OG 25 1 W base (some ⟨g,0,none⟩) (k+1) c2 (sl k l.uA l.uL l.uC++[.slice a (l.uL k) c])) (ht:Touch (ij l.aU) V1 W) (hg:g∈ij l.aU∨V1.heap.size≤g):iq W base (l.more k (some ⟨g,0,none⟩) c2 a c):=by
 subst hk
 have h1:=h.up hb
 have q1:∀ x∈l.lh,x∉ij l.aU:=fun x hx hy=>by
  obtain ⟨cs,e1⟩:=h.type2 x hx
  obtain ⟨cs',e2⟩:=h.u.type x hy
  rw [e1] at e2
  simp at e2
 have k1:∀ x∈ij l.aT,x∉ij l.aU:=fun x hx=>q1 x (List.mem_append_left _ (List.mem_append_left _ hx))
 have k2:∀ x∈l.R.lh,x∉ij l.aU:=fun x hx=>q1 x (List.mem_append_left _ (List.mem_append_right _ hx))
 have k3:∀ i,i<l.nU→∀ x∈ij (l.uA i),x∉ij l.aU:=fun i hi x hx=>q1 x (List.mem_append_right _ (lz.2 ⟨i,hi,hx⟩))
 refine ⟨h1.t.fK ht k1,?_,fun i hi=>?_,h1.r.yv ht k2 h.su,?_,fun x hx hy=>?_⟩
 ·
  have e:sl (l.nU+1) (fun i=>if i=l.nU then a else l.uA i) l.uL (fun i=>if i=l.nU then c else l.uC i)=sl l.nU l.uA l.uL l.uC++[.slice a (l.uL l.nU) c]:=by
   rw [yC,AE (n:=l.nU) (A:=fun i=>if i=l.nU then a else l.uA i) (L:=l.uL) (C:=fun i=>if i=l.nU then c else l.uC i) (A':=l.uA) (L':=l.uL) (C':=l.uC) (fun i hi=>⟨if_neg (by omega),rfl,if_neg (by omega)⟩),if_pos rfl,if_pos rfl]
  rw [←e] at hu
  exact hu
 ·
  show OI W base (if i=l.nU then a else l.uA i) (l.uL i) (if i=l.nU then c else l.uC i) (l.uz i)
  by_cases e:i=l.nU
  ·
   rw [if_pos e,if_pos e,e]
   refine OI.mono (ho.fK ht (fun x hx hy=>?_)) hbase
   have:=(ho.blk x hx).1
   have:=(h.u.blk x hy).2
   omega
  rw [if_neg e,if_neg e]
  have hi':i<l.nU:=by have:i<l.nU+1:=hi;omega
  exact (h1.z i hi').fK ht (k3 i hi')
 ·
  show ((ij l.aT++l.R.lh)++(List.range (l.nU+1)).flatMap fun i=>ij (if i=l.nU then a else l.uA i)).Nodup
  rw [List.range_succ,List.flatMap_append]
  simp only [List.flatMap_cons,List.flatMap_nil,List.append_nil,if_true]
  rw [jg (f:=fun i=>ij (if i=l.nU then a else l.uA i)) (g:=fun i=>ij (l.uA i)) (fun i hi=>by rw [if_neg (by omega)]),←List.append_assoc]
  refine jj h.nd (lf _) V.heap.size (fun x hx=>(h.blk x hx).2) (fun x hx=>(ho.blk x hx).1)
 have hx1:=(h.r.own.s.mi x hx).1.2
 have hy':x=g:=by simpa [Lng.more,ij] using hy
 rcases hg with hg | hg
 ·
  exact h.su x hx (hy'▸hg)
 have:=hb.size
 omega
end Go.Proofs.YtfcfpkibceepgaaGreat
