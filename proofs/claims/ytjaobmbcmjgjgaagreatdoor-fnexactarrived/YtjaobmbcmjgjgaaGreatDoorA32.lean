import Derived.Test.YtjaobmbcmjgjgaaGreatDoorA31
import Derived.Test.YtjaobmbcmjgjgaaGreatDoorRows
namespace Go.Proofs.YtjaobmbcmjgjgaaGreatDoor
set_option maxRecDepth 100000
open Go.ChangeShapes Go.WideShapes Go.ChangeAt Go.RowKit
set_option linter.unusedVariables false
set_option linter.unusedSimpArgs false
theorem ff {p:Prop} (h:p:=by
 refine ⟨y,fun j hj=>?_,hy⟩
 have e0:=hcell j (by omega)
 rw [Go.Deep.add_add] at e0
 rw [e0,←Array.getElem?_toList,←e,List.getElem?_eq_getElem (by omega)]):p:=h
theorem fg {p:Prop} (h:p:=by
 subst hspot
 refine ⟨b,off,rfl,fun j hj=>?_⟩
 have q2:=q j hj
 rw [np] at q2
 rw [Nat.add_assoc]
 exact q2):p:=h
theorem sW {H:Type} {enc:TypeId × Value→H} {W:World} {held:Bool} {fuel:Nat} {cs:List Value} {x:DataW H × List MemPlace}
  (h:DataW.trod enc Tryz.prog W 0 (fun _=>true) held fuel 23 cs=some x):∃ C:Cfg,cs=C.cells.toList:=by
 obtain ⟨xs,k,_,_,hl,hlen,hfs⟩:=DataW.trod_struct Tryz.underlying23 h
 rw [show Tryz.prog.cellsOf 23=7 by kernel_rfl] at hl
 match xs,hlen,cs,hl with
 | [y0,y1,y2,y3,y4,y5,y6],_,[v0,v1,v2,v3,v4,v5,v6],_ =>
  have h0:=hfs 0 _ rfl
  have h1:=hfs 1 _ rfl
  have h2:=hfs 2 _ rfl
  have h3:=hfs 3 _ rfl
  have h4:=hfs 4 _ rfl
  have h5:=hfs 5 _ rfl
  have h6:=hfs 6 _ rfl
  have e0:Tryz.prog.cellsOf 2=1:=by kernel_rfl
  simp [e0] at h0 h1 h2 h3 h4 h5 h6
  obtain ⟨z0,q0,_,_⟩:=DataW.trod_int Tryz.underlying2 h0
  simp at q0
  subst q0
  obtain ⟨z1,q1,_,_⟩:=DataW.trod_int Tryz.underlying2 h1
  simp at q1
  subst q1
  obtain ⟨z2,q2,_,_⟩:=DataW.trod_int Tryz.underlying2 h2
  simp at q2
  subst q2
  obtain ⟨z3,q3,_,_⟩:=DataW.trod_int Tryz.underlying2 h3
  simp at q3
  subst q3
  obtain ⟨z4,q4,_,_⟩:=DataW.trod_int Tryz.underlying2 h4
  simp at q4
  subst q4
  obtain ⟨z5,q5,_,_⟩:=DataW.trod_int Tryz.underlying2 h5
  simp at q5
  subst q5
  obtain ⟨z6,q6,_,_⟩:=DataW.trod_int Tryz.underlying2 h6
  simp at q6
  subst q6
  exact ⟨⟨z0,z1,z2,z3,z4,z5,z6⟩,rfl⟩
theorem sV {H:Type} {enc:TypeId × Value→H} {W:World} {held:Bool} {fuel:Nat} {cs:List Value} {x:DataW H × List MemPlace}
  (h:DataW.trod enc Tryz.prog W 0 (fun _=>true) held fuel 28 cs=some x):∃ N:Cnt,cs=N.cells.toList∧N.Fit∧jo W N:=by
 obtain ⟨xs,k,_,_,hl,hlen,hfs⟩:=DataW.trod_struct Tryz.underlying28 h
 rw [show Tryz.prog.cellsOf 28=3 by kernel_rfl] at hl
 match xs,hlen,cs,hl with
 | [y0,y1,y2],_,[v0,v1,v2],_ =>
  have h0:=hfs 0 _ rfl
  have h1:=hfs 1 _ rfl
  have h2:=hfs 2 _ rfl
  have e0:Tryz.prog.cellsOf 25=1:=by kernel_rfl
  have e1:Tryz.prog.cellsOf 2=1:=by kernel_rfl
  have e2:Tryz.prog.cellsOf 26=1:=by kernel_rfl
  simp [e0,e1,e2] at h0 h1 h2
  obtain ⟨aU,nU,cU,u,rfl,fu,ru⟩:=kj h0
  obtain ⟨lo,q1,_,_⟩:=DataW.trod_int Tryz.underlying2 h1
  simp at q1
  subst q1
  obtain ⟨aP,nP,cP,p,rfl,fp,rp⟩:=qN h2
  exact ⟨⟨aU,nU,cU,u,lo,aP,nP,cP,p⟩,rfl,⟨fu,fp⟩,⟨ru,rp⟩⟩
theorem uU {H:Type} {enc:TypeId × Value→H} {W:World} {held:Bool} {fuel:Nat} {cs:List Value} {x:DataW H × List MemPlace}
  (h:DataW.trod enc Tryz.prog W 0 (fun _=>true) held fuel 85 cs=some x):∃ R:Rnd,cs=R.cells.toList∧R.Fit∧jw W R:=by
 obtain ⟨xs,k,_,_,hl,hlen,hfs⟩:=DataW.trod_struct Tryz.underlying85 h
 rw [show Tryz.prog.cellsOf 85=5 by kernel_rfl] at hl
 match xs,hlen,cs,hl with
 | [y0,y1,y2,y3,y4],_,[v0,v1,v2,v3,v4],_ =>
  have h0:=hfs 0 _ rfl
  have h1:=hfs 1 _ rfl
  have h2:=hfs 2 _ rfl
  have h3:=hfs 3 _ rfl
  have h4:=hfs 4 _ rfl
  have e0:Tryz.prog.cellsOf 25=1:=by kernel_rfl
  have e1:Tryz.prog.cellsOf 2=1:=by kernel_rfl
  have e2:Tryz.prog.cellsOf 4=1:=by kernel_rfl
  have e3:Tryz.prog.cellsOf 83=1:=by kernel_rfl
  simp [e0,e1,e2,e3] at h0 h1 h2 h3 h4
  obtain ⟨aQ,nQ,cQ,q,rfl,fq,rq⟩:=kj h0
  obtain ⟨aD,nD,cD,d,rfl,fd,rd⟩:=kj h1
  obtain ⟨tn,q2,_,_⟩:=DataW.trod_int Tryz.underlying2 h2
  simp at q2
  subst q2
  obtain ⟨fr,q3,_⟩:=DataW.trod_bool Tryz.underlying4 h3
  simp at q3
  subst q3
  obtain ⟨aS,nS,cS,A,L,C,z,rfl,fs,rs,fl,rz⟩:=p8 h4
  exact ⟨⟨aQ,nQ,cQ,q,aD,nD,cD,d,tn,fr,aS,nS,cS,A,L,C,z⟩,rfl,⟨fq,fd,fs,fl⟩,⟨rq,rd,rs,rz⟩⟩
theorem wY {H:Type} {enc:TypeId × Value→H} {W:World} {held:Bool} {fuel:Nat} {cs:List Value} {x:DataW H × List MemPlace}
  (h:DataW.trod enc Tryz.prog W 0 (fun _=>true) held fuel 87 cs=some x):∃ l:Lng,cs=l.cells.toList∧l.Fit∧mh W l:=by
 obtain ⟨xs,k,_,_,hl,hlen,hfs⟩:=DataW.trod_struct Tryz.underlying87 h
 rw [show Tryz.prog.cellsOf 87=8 by kernel_rfl] at hl
 match xs,hlen,cs,hl with
 | [y0,y1,y2,y3],_,[v0,v1,v2,v3,v4,v5,v6,v7],_ =>
  have h0:=hfs 0 _ rfl
  have h1:=hfs 1 _ rfl
  have h2:=hfs 2 _ rfl
  have h3:=hfs 3 _ rfl
  have e0:Tryz.prog.cellsOf 4=1:=by kernel_rfl
  have e1:Tryz.prog.cellsOf 25=1:=by kernel_rfl
  have e2:Tryz.prog.cellsOf 83=1:=by kernel_rfl
  have e3:Tryz.prog.cellsOf 85=5:=by kernel_rfl
  simp [e0,e1,e2,e3] at h0 h1 h2 h3
  obtain ⟨st,q0,_⟩:=DataW.trod_bool Tryz.underlying4 h0
  simp at q0
  subst q0
  obtain ⟨aT,nT,cT,t,rfl,ft,rt⟩:=kj h1
  obtain ⟨aU,nU,cU,uA,uL,uC,uz,rfl,fu,ru,fl,rz⟩:=p8 h2
  obtain ⟨R,q3,fR,rR⟩:=uU h3
  simp only [Rnd.cells,List.cons.injEq,and_true] at q3
  obtain ⟨rfl,rfl,rfl,rfl,rfl⟩:=q3
  exact ⟨⟨st,aT,nT,cT,t,aU,nU,cU,uA,uL,uC,uz,R⟩,rfl,⟨ft,fu,fl,fR⟩,⟨rt,ru,rz,rR⟩⟩
theorem uX {H:Type} {enc:TypeId × Value→H} {W:World} {held:Bool} {fuel:Nat} {cs:List Value} {x:DataW H × List MemPlace}
  (h:DataW.trod enc Tryz.prog W 0 (fun _=>true) held fuel 34 cs=some x):∃ x:Pkt,cs=[.int .i64 x.k,.int .i64 x.d,.int .i64 x.s,.int .i64 x.p,.string x.b]∧x.b.size≤maxLen:=by
 obtain ⟨xs,k,_,_,hl,hlen,hfs⟩:=DataW.trod_struct Tryz.underlying34 h
 rw [show Tryz.prog.cellsOf 34=5 by kernel_rfl] at hl
 match xs,hlen,cs,hl with
 | [y0,y1,y2,y3,y4],_,[v0,v1,v2,v3,v4],_ =>
  have h0:=hfs 0 _ rfl
  have h1:=hfs 1 _ rfl
  have h2:=hfs 2 _ rfl
  have h3:=hfs 3 _ rfl
  have h4:=hfs 4 _ rfl
  have e0:Tryz.prog.cellsOf 2=1:=by kernel_rfl
  have e1:Tryz.prog.cellsOf 9=1:=by kernel_rfl
  simp [e0,e1] at h0 h1 h2 h3 h4
  obtain ⟨kk,q0,_,_⟩:=DataW.trod_int Tryz.underlying2 h0
  simp at q0
  subst q0
  obtain ⟨d,q1,_,_⟩:=DataW.trod_int Tryz.underlying2 h1
  simp at q1
  subst q1
  obtain ⟨s,q2,_,_⟩:=DataW.trod_int Tryz.underlying2 h2
  simp at q2
  subst q2
  obtain ⟨p,q3,_,_⟩:=DataW.trod_int Tryz.underlying2 h3
  simp at q3
  subst q3
  obtain ⟨b,q4,_,b4⟩:=DataW.trod_string Tryz.underlying9 h4
  simp at q4
  subst q4
  exact ⟨⟨0,0,0,kk,d,s,p,b⟩,rfl,b4⟩
theorem sS {H:Type} {enc:TypeId × Value→H} {W:World} {held:Bool} {fuel:Nat} {cs:List Value} {x:DataW H × List MemPlace}
  (h:DataW.trod enc Tryz.prog W 0 (fun _=>true) held fuel 81 cs=some x):∃ x:Pkt,cs=x.cells.toList∧x.b.size≤maxLen:=by
 obtain ⟨xs,k,_,_,hl,hlen,hfs⟩:=DataW.trod_struct Tryz.underlying81 h
 rw [show Tryz.prog.cellsOf 81=8 by kernel_rfl] at hl
 match xs,hlen,cs,hl with
 | [y0,y1,y2,y3],_,[v0,v1,v2,v3,v4,v5,v6,v7],_ =>
  have h0:=hfs 0 _ rfl
  have h1:=hfs 1 _ rfl
  have h2:=hfs 2 _ rfl
  have h3:=hfs 3 _ rfl
  have e0:Tryz.prog.cellsOf 2=1:=by kernel_rfl
  have e1:Tryz.prog.cellsOf 34=5:=by kernel_rfl
  simp [e0,e1] at h0 h1 h2 h3
  obtain ⟨id,q0,_,_⟩:=DataW.trod_int Tryz.underlying2 h0
  simp at q0
  subst q0
  obtain ⟨inn,q1,_,_⟩:=DataW.trod_int Tryz.underlying2 h1
  simp at q1
  subst q1
  obtain ⟨refs,q2,_,_⟩:=DataW.trod_int Tryz.underlying2 h2
  simp at q2
  subst q2
  obtain ⟨x,q3,fx⟩:=uX h3
  simp only [Pkt.cells,List.cons.injEq,and_true] at q3
  obtain ⟨rfl,rfl,rfl,rfl,rfl⟩:=q3
  exact ⟨⟨id,inn,refs,x.k,x.d,x.s,x.p,x.b⟩,rfl,fx⟩
instance:Inhabited Pkt:=⟨⟨0,0,0,0,0,0,0,⟨#[]⟩⟩⟩
instance:Inhabited Lng:=⟨⟨false,none,0,0,fun _=>0,none,0,0,fun _=>none,fun _=>0,fun _=>0,fun _ _=>0,⟨none,0,0,fun _=>0,none,0,0,fun _=>0,0,false,none,0,0,fun _=>none,fun _=>0,fun _=>0,fun _ _=>0⟩⟩⟩
theorem qO {H:Type} {enc:TypeId × Value→H} {W:World} {held:Bool} {fuel:Nat} {v:Value} {x:DataW H × List MemPlace}
  (h:DataW.trod enc Tryz.prog W 0 (fun _=>true) held fuel 29 [v]=some x):∃ (a:Option Addr) (n c:Nat) (K:Nat→Pkt),v=.slice a n c∧n≤maxLen∧kK W a n K∧∀ i,i<n→(K i).b.size≤maxLen:=by
 rcases Go.Deep.open_slice Tryz.underlying29 h with ⟨hcs,_⟩ | ⟨a,len,cap,m,n,D,Pl,hcs,hb,hl,hm,hmm,_,hx⟩
 ·
  simp at hcs
  exact ⟨_,_,_,fun _=>⟨0,0,0,0,0,0,0,⟨#[]⟩⟩,hcs,Nat.zero_le _,kK.nil _ _ _,fun i hi=>by omega⟩
 simp at hcs hmm
 subst hmm
 have each:∀ i,i<m→∃ y:Pkt,(∀ j,j<8→W.cell? (a.add (i*8+j))=y.cells[j]?)∧y.b.size≤maxLen:=by
  intro i hi
  obtain ⟨cs',h1,h2⟩:=hx i hi
  rw [show Tryz.prog.cellsOf 81=8 by kernel_rfl] at h1
  obtain ⟨_,hlen,hcell⟩:=World.cells?_some h1
  obtain ⟨y,e,hy⟩:=sS h2
  exact ff
 obtain ⟨f,hf⟩:=Go.Deep.choose_lt each
 refine ⟨_,_,_,f,hcs,by omega,fun i hi=>?_,fun i hi=>(hf i (by omega)).2⟩
 have q:=(hf i (by omega)).1
 obtain ⟨b,off,spot⟩:=a
 have hspot:spot=none:=by
  have h0:=(hf 0 (by omega)).1 0 (by omega)
  rw [Array.getElem?_eq_getElem (by rw [Pkt.gJ];omega)] at h0
  simpa [Addr.add] using World.cell?_spot h0
 exact fg
theorem uV {H:Type} {enc:TypeId × Value→H} {W:World} {held:Bool} {fuel:Nat} {v:Value} {x:DataW H × List MemPlace}
  (h:DataW.trod enc Tryz.prog W 0 (fun _=>true) held fuel 30 [v]=some x):∃ (a:Option Addr) (n c:Nat) (K:Nat→Lng),v=.slice a n c∧n≤maxLen∧pP W a n K∧∀ i,i<n→(K i).Fit∧mh W (K i):=by
 rcases Go.Deep.open_slice Tryz.underlying30 h with ⟨hcs,_⟩ | ⟨a,len,cap,m,n,D,Pl,hcs,hb,hl,hm,hmm,_,hx⟩
 ·
  simp at hcs
  exact ⟨_,_,_,fun _=>⟨false,none,0,0,fun _=>0,none,0,0,fun _=>none,fun _=>0,fun _=>0,fun _ _=>0,⟨none,0,0,fun _=>0,none,0,0,fun _=>0,0,false,none,0,0,fun _=>none,fun _=>0,fun _=>0,fun _ _=>0⟩⟩,hcs,Nat.zero_le _,pP.nil _ _ _,fun i hi=>by omega⟩
 simp at hcs hmm
 subst hmm
 have each:∀ i,i<m→∃ y:Lng,(∀ j,j<8→W.cell? (a.add (i*8+j))=y.cells[j]?)∧y.Fit∧mh W y:=by
  intro i hi
  obtain ⟨cs',h1,h2⟩:=hx i hi
  rw [show Tryz.prog.cellsOf 87=8 by kernel_rfl] at h1
  obtain ⟨_,hlen,hcell⟩:=World.cells?_some h1
  obtain ⟨y,e,hy⟩:=wY h2
  exact ff
 obtain ⟨f,hf⟩:=Go.Deep.choose_lt each
 refine ⟨_,_,_,f,hcs,by omega,fun i hi=>?_,fun i hi=>(hf i (by omega)).2⟩
 have q:=(hf i (by omega)).1
 obtain ⟨b,off,spot⟩:=a
 have hspot:spot=none:=by
  have h0:=(hf 0 (by omega)).1 0 (by omega)
  rw [Array.getElem?_eq_getElem (by rw [Lng.gJ];omega)] at h0
  simpa [Addr.add] using World.cell?_spot h0
 exact fg
theorem sQ {H:Type} {enc:TypeId × Value→H} {W:World} {held:Bool} {fuel:Nat} {cs:List Value} {x:DataW H × List MemPlace}
  (h:DataW.trod enc Tryz.prog W 0 (fun _=>true) held fuel 32 cs=some x):∃ S:Swg,cs=S.cells.toList∧S.Fit∧jL W S:=by
 obtain ⟨xs,k,_,_,hl,hlen,hfs⟩:=DataW.trod_struct Tryz.underlying32 h
 rw [show Tryz.prog.cellsOf 32=17 by kernel_rfl] at hl
 match xs,hlen,cs,hl with
 | [y0,y1,y2,y3,y4,y5,y6,y7,y8],_,[v0,v1,v2,v3,v4,v5,v6,v7,v8,v9,v10,v11,v12,v13,v14,v15,v16],_ =>
  have h0:=hfs 0 _ rfl
  have h1:=hfs 1 _ rfl
  have h2:=hfs 2 _ rfl
  have h3:=hfs 3 _ rfl
  have h4:=hfs 4 _ rfl
  have h5:=hfs 5 _ rfl
  have h6:=hfs 6 _ rfl
  have h7:=hfs 7 _ rfl
  have h8:=hfs 8 _ rfl
  have e0:Tryz.prog.cellsOf 23=7:=by kernel_rfl
  have e1:Tryz.prog.cellsOf 2=1:=by kernel_rfl
  have e2:Tryz.prog.cellsOf 24=1:=by kernel_rfl
  have e3:Tryz.prog.cellsOf 28=3:=by kernel_rfl
  have e4:Tryz.prog.cellsOf 29=1:=by kernel_rfl
  have e5:Tryz.prog.cellsOf 30=1:=by kernel_rfl
  simp [e0,e1,e2,e3,e4,e5] at h0 h1 h2 h3 h4 h5 h6 h7 h8
  obtain ⟨C,q0⟩:=sW h0
  simp only [Cfg.cells,List.cons.injEq,and_true] at q0
  obtain ⟨rfl,rfl,rfl,rfl,rfl,rfl,rfl⟩:=q0
  obtain ⟨now,q1,_,_⟩:=DataW.trod_int Tryz.underlying2 h1
  simp at q1
  subst q1
  obtain ⟨nx,q2,_,_⟩:=DataW.trod_int Tryz.underlying2 h2
  simp at q2
  subst q2
  obtain ⟨aE,nE,cE,e,rfl,fe,re⟩:=uT h3
  obtain ⟨N,q4,fN,rN⟩:=sV h4
  simp only [Cnt.cells,List.cons.injEq,and_true] at q4
  obtain ⟨rfl,rfl,rfl⟩:=q4
  obtain ⟨aK,nK,cK,K,rfl,fk,rk,bk⟩:=qO h5
  obtain ⟨aL,nL,cL,L,rfl,fl,rl,ll⟩:=uV h6
  obtain ⟨dr,q7,_,_⟩:=DataW.trod_int Tryz.underlying2 h7
  simp at q7
  subst q7
  obtain ⟨lst,q8,_,_⟩:=DataW.trod_int Tryz.underlying2 h8
  simp at q8
  subst q8
  exact ⟨⟨C,now,nx,aE,nE,cE,e,N,aK,nK,cK,K,aL,nL,cL,L,dr,lst⟩,rfl,⟨fe,fN,fk,bk,fl,fun i hi=>(ll i hi).1⟩,⟨re,rN,rk,rl,fun i hi=>(ll i hi).2⟩⟩
theorem uR {H:Type} {enc:TypeId × Value→H} {W:World} {b0:Nat} {held:Bool} {r:Reach} {v:Value} {d:DataW H} {p:List MemPlace}
  (hv:Value.okWide Tryz.prog W r b0 32 v) (h:DataW.Trod enc Tryz.prog W 0 (fun _=>true) held 32 v d p):∃ S:Swg,v=.agg S.cells∧S.Fit∧jL W S:=by
 obtain ⟨cs,rfl,hsz⟩:=okWide_struct Tryz.underlying32 hv
 obtain ⟨fuel,hf⟩:=h
 obtain ⟨S,e,h1,h2⟩:=sQ hf
 have e2:cs.toList=S.cells.toList:=e
 have e3:cs=S.cells:=Array.toList_inj.1 e2
 exact ⟨S,by rw [e3],h1,h2⟩
open Go.RowKit
theorem Alike.tot {a b:Rnd} (h:Alike a b):b.tot=a.tot:=by unfold Rnd.tot;rw [h.nQ,h.nD,h.l,h.nS]
theorem gk.tot {a b:Lng} (h:gk a b):b.tot=a.tot:=by unfold Lng.tot;rw [h.nT,h.l,h.nU,h.r.tot]
theorem wM {f g:Nat→Nat}:∀ {n:Nat},(∀ i,i<n→f i=g i)→iy f n=iy g n:=by
 intro n
 induction n with
 | zero=>intro _;rfl
 | succ n ih =>
  intro h
  show iy f n+f n=iy g n+g n
  rw [ih (fun i hi=>h i (by omega)),h n (by omega)]
theorem fP.tot {A B:Swg} (h:fP A B):B.tot=A.tot:=by
 unfold Swg.tot
 rw [h.nE,h.n.nU,h.n.nP,h.nK,h.nL,wM (fun i hi=>(h.l i hi).tot)]
end Go.Proofs.YtjaobmbcmjgjgaaGreatDoor
