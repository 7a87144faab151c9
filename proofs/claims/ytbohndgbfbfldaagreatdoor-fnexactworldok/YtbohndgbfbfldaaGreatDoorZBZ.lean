/- Several texts laid together: OpenWd, SBv. -/
import Derived.Test.YtbohndgbfbfldaaGreatDoorWoA
import Derived.Test.YtbohndgbfbfldaaGreatDoorZBY
import Derived.Test.YtbohndgbfbfldaaGreatDoorJiA
import Derived.ProofKit
import Derived.ChangeSame
import Derived.OpenShut
import Derived.ChangeOld
import Derived.Lib.LaidTab
set_option maxRecDepth 100000
set_option maxHeartbeats 2000000
namespace Go.Proofs.YtbohndgbfbfldaaGreatDoor
open Go.ChangeShapes Go.WideShapes Go.ChangeAt Go.RowKit Go.Joins
theorem yabt:Tryz.prog.cellsOf 32=1:=by kernel_rfl
theorem yaca:Tryz.prog.cellsOf 69=19:=by kernel_rfl
theorem yabm:Tryz.prog.cellsOf 67=1:=by kernel_rfl
theorem yabh:Tryz.prog.cellsOf 62=1:=by kernel_rfl
theorem yacl:Tryz.prog.cellsOf 63=1:=by kernel_rfl
def AwR (t:Aw):Prop:=∀ j (hj:j < t.names.length),t.names[j].size≤maxLen
section
variable {H:Type} {enc:TypeId×Value→H} {W:World} {sp:Nat→Bool} {held:Bool} {fuel:Nat} {v:Value} {y:DataW H×List MemPlace}
theorem zwr {cs:List Value} (h:DataW.trod enc Tryz.prog W 0 sp held fuel 59 cs=some y):∃ u:Aw×Value,cs=awc u∧RdT W u.2 u.1.names∧u.1.names.length≤maxLen∧AwR u.1:=by
 obtain ⟨y0,y1,y2,n,_,hl,t0,t1,t2⟩:=Deep.trod_struct3 Tryz.underlying59 h;obtain ⟨z0,e0,_,_⟩:=DataW.trod_int Tryz.underlying3 t0;obtain ⟨z1,e1,_,_⟩:=DataW.trod_int Tryz.underlying3 t1;rw[zok] at hl;simp only[zdp,yabt] at e0 e1 t2
 match cs,hl with
 | [c0,c1,c2],_ =>
  simp at e0 e1 t2;subst e0 e1;obtain ⟨zs,a1,a2,a3⟩:=zqi t2;exact ⟨(⟨z0,z1,zs⟩,c2),rfl,a1,a2,a3⟩
theorem zuw (h:DataW.trod enc Tryz.prog W 0 sp held fuel 67 [v]=some y):∃ ts:List Aw,RdAs W v ts∧ts.length≤maxLen∧(∀ k (h:k < ts.length),ts[k].names.length≤maxLen)∧∀ k (h:k < ts.length),AwR ts[k]:=by
 rcases Deep.open_slice Tryz.underlying67 h with ⟨hcs,_⟩ | ⟨a,len,cap,m,n,D,Pl,hcs,_,hl,hm,hmm,_,hel⟩
 ·simp only[List.cons.injEq,and_true] at hcs;subst hcs;exact ⟨[],⟨[],rfl,⟨rfl,none,0,rfl,⟨Nat.le_refl _,fun _=>rfl⟩,fun h=>absurd h (by simp)⟩,fun k hk=>absurd hk (by simp)⟩,by simp,fun k hk=>absurd hk (by simp),fun k hk=>absurd hk (by simp)⟩
 ·simp only[List.cons.injEq,and_true] at hcs;subst hcs
  have hlm:len≤m:=by rw[hmm];split <;> omega
  have one:∀ i,i < len→∃ u:Aw×Value,(∀ j,j < 3→W.cell? ((a.add (i*3)).add j)=(awc u)[j]?)∧RdT W u.2 u.1.names∧u.1.names.length≤maxLen∧AwR u.1:=by
   intro i hi;obtain ⟨cs,hcs,ht⟩:=hel i (by omega);rw[zok] at hcs;obtain ⟨_,hlen,hc⟩:=World.cells?_some hcs;obtain ⟨x,rfl,hR⟩:=zwr ht;exact ⟨x,fun j hj=>by rw[hc j hj,List.getElem?_eq_getElem (by rw[hlen];exact hj)],hR⟩
  obtain ⟨us,hpl,hps⟩:=zbl len one;have ML:(us.map Prod.fst).length=us.length:=List.length_map ..;refine ⟨us.map Prod.fst,⟨us,rfl,⟨zpp us,some a,cap,by rw[hpl],⟨by rw[hpl];exact hl,fun e=>by cases e⟩,fun hn=>?_⟩,fun k hk=>(hps k hk).2.1⟩,by rw[ML,hpl];omega,fun k hk=>?_,fun k hk=>?_⟩
  ·obtain ⟨b,off,spot⟩:=a;have hc:=(hps 0 hn).1 0 (by omega);have hc':W.cell? ((({ block:=b,off:=off,spot:=spot }:Addr).add (0*3)).add 0)=some (.int .i64 us[0].1.code):=hc
   have hspot:spot=none:=by simpa[Addr.add] using World.cell?_spot hc'
   subst hspot;refine ⟨b,off,rfl,World.block_lt_of_cell? W _ (by simpa[Addr.add] using hc'),fun j hj=>?_⟩
   have hk:j / 3 < us.length:=by omega
   have q:=(hps (j / 3) hk).1 (j % 3) (by omega);simp only[Addr.add_lit] at q
   have hj3:j=j / 3*3+j % 3:=by omega
   have e1:off+j=off+j / 3*3+j % 3:=by omega
   have e2:(awv us)[j / 3*3+j % 3]?=(awc us[j / 3])[j % 3]?:=(zan _ 3 zio us (j / 3) (j % 3) hk (by omega))
   rw[← hj3] at e2;rw[e1,q];exact e2.symm
  ·rw[ML] at hk;rw[List.getElem_map];exact (hps k hk).2.2.1
  ·rw[ML] at hk;rw[List.getElem_map];exact (hps k hk).2.2.2
end
theorem zyu {H:Type} {enc:TypeId×Value→H} {W:World} {sp:Nat→Bool} {held:Bool} {fuel:Nat} {c0 c1 c2 c3 c4 c5 c6 c7 c8 c9:Value} {y:DataW H×List MemPlace}
  (hf:DataW.trod enc Tryz.prog W 0 sp held fuel 61 [c0,c1,c2,c3,c4,c5,c6,c7,c8,c9]=some y) :
  ∃ (ws:List Int) (ps:List St) (es:List Int) (qs:List Se) (hs:List Int) (td:List Mi) (cd vl:Int) (nm:List ByteArray) (fr:Bool) (aW aP aS aQ aH aT aN:Option Addr) (cW cP cS cQ cH cT cN:Nat),(#[c0,c1,c2,c3,c4,c5,c6,c7,c8,c9]:Array Value)=#[.slice aW ws.length cW,.slice aP ps.length cP,.slice aS es.length cS,.slice aQ qs.length cQ,.slice aH hs.length cH,.slice aT td.length cT,.int .i64 cd,.int .i64 vl,.slice aN nm.length cN,.bool fr]∧RdF W (.agg #[.slice aW ws.length cW,.slice aP ps.length cP,.slice aS es.length cS,.slice aQ qs.length cQ,.slice aH hs.length cH,.slice aT td.length cT,.int .i64 cd,.int .i64 vl,.slice aN nm.length cN,.bool fr]) ws ps es qs hs td cd vl nm fr∧(ws.length≤maxLen∧ps.length≤maxLen∧es.length≤maxLen∧qs.length≤maxLen∧hs.length≤maxLen∧td.length≤maxLen∧nm.length≤maxLen)∧∀ k (hk:k < nm.length),nm[k].size≤maxLen:=by
 obtain ⟨y0,y1,y2,y3,y4,n,hx,h0,h1,h2,h3,h4⟩:=zds Tryz.underlying61 hf
 have kI:Tryz.prog.cellsOf 22=1:=by kernel_rfl
 have kS:Tryz.prog.cellsOf 50=1:=by kernel_rfl
 have kE:Tryz.prog.cellsOf 53=1:=by kernel_rfl
 have kM:Tryz.prog.cellsOf 58=1:=by kernel_rfl
 have kT:Tryz.prog.cellsOf 32=1:=by kernel_rfl
 simp only[zzc,zok,yaaj,kI,kM] at h0 h1 h2 h3 h4;obtain ⟨z0,z1,m0,_,_,d0,d1⟩:=trod_struct2 Tryz.underlying57 h0;simp only[yaaz,zyi] at d0 d1;obtain ⟨y00,y01,n0,_,_,h00,h01⟩:=trod_struct2 Tryz.underlying52 d0;obtain ⟨y10,y11,n1,_,_,h10,h11⟩:=trod_struct2 Tryz.underlying55 d1;simp only[kI,kS,kE] at h00 h01 h10 h11;obtain ⟨ws,hI0,hwl0,_⟩:=zhd (v:=c0) (by simpa using h00);obtain ⟨ps,hS0,hpl0,_⟩:=zyy (v:=c1) (by simpa using h01);obtain ⟨es,hI1,hwl1,_⟩:=zhd (v:=c2) (by simpa using h10);obtain ⟨qs,hS1,hpl1,_⟩:=zzf (v:=c3) (by simpa using h11);obtain ⟨hs,hH,hhl,_⟩:=zhd (v:=c4) (by simpa using h1);obtain ⟨td,hT,htl,_⟩:=zww (v:=c5) (by simpa using h2);obtain ⟨u0,u1,u2,n',_,_,t0,t1,t2⟩:=Deep.trod_struct3 Tryz.underlying59 h3;simp only[yaal,kT] at t0 t1 t2;obtain ⟨q0,e0,_,_⟩:=DataW.trod_int Tryz.underlying3 t0;obtain ⟨q1,e1,_,_⟩:=DataW.trod_int Tryz.underlying3 t1;obtain ⟨nm,hN,hnl,hns⟩:=zqi (v:=c8) (by simpa using t2);obtain ⟨fr,e9,_⟩:=DataW.trod_bool Tryz.underlying4 h4;simp at e0 e1 e9;subst e0 e1 e9;obtain ⟨aW,cW,rfl,_⟩:=hI0.shape;obtain ⟨aP,cP,rfl,_⟩:=hS0.shape;obtain ⟨aS,cS,rfl,_⟩:=hI1.shape;obtain ⟨aQ,cQ,rfl,_⟩:=hS1.shape;obtain ⟨aH,cH,rfl,_⟩:=hH.shape;obtain ⟨-,aT,cT,rfl,-⟩:=id hT;obtain ⟨aN,cN,rfl,_⟩:=hN.shape;exact ⟨ws,ps,es,qs,hs,td,q0,q1,nm,fr,_,_,_,_,_,_,_,_,_,_,_,_,_,_,rfl,⟨_,_,_,_,_,_,_,_,_,_,_,_,_,_,rfl,⟨_,_,_,_,rfl,⟨_,_,rfl,hI0,hS0⟩,⟨_,_,rfl,hI1,hS1⟩⟩,hH,hT,hN⟩,⟨hwl0,hpl0,hwl1,hpl1,hhl,htl,hnl⟩,hns⟩
theorem yaec {cs:List Value} (h:cs.length=19):∃ c0 c1 c2 c3 c4 c5 c6 c7 c8 c9 c10 c11 c12 c13 c14 c15 c16 c17 c18,cs=[c0,c1,c2,c3,c4,c5,c6,c7,c8,c9,c10,c11,c12,c13,c14,c15,c16,c17,c18]:=by
 match cs,h with
 | [c0,c1,c2,c3,c4,c5,c6,c7,c8,c9,c10,c11,c12,c13,c14,c15,c16,c17,c18],_=>exact ⟨c0,c1,c2,c3,c4,c5,c6,c7,c8,c9,c10,c11,c12,c13,c14,c15,c16,c17,c18,rfl⟩
theorem yabi {H:Type} {enc:TypeId×Value→H} {W:World} {sp:Nat→Bool} {held:Bool} {r:Reach} {b0:Nat} {v:Value} {d:DataW H} {p:List MemPlace}
  (hv:Value.okWide Tryz.prog W r b0 69 v) (h:DataW.Trod enc Tryz.prog W 0 sp held 69 v d p) :
  ∃ (ws:List Int) (ps:List St) (es:List Int) (qs:List Se) (hs:List Int) (td:List Mi) (cd vl:Int) (nm:List ByteArray) (fr:Bool) (ts:List Th) (ds:List Den) (ok:Int) (op ot:ByteArray) (og ox:Int) (az:List Aw) (ag:Bool),RdWd W v ws ps es qs hs td cd vl nm fr ts ds ok op ot og ox az ag∧((ws.length≤maxLen∧ps.length≤maxLen∧es.length≤maxLen∧qs.length≤maxLen∧hs.length≤maxLen∧td.length≤maxLen∧nm.length≤maxLen)∧∀ k (hk:k < nm.length),nm[k].size≤maxLen)∧(ts.length≤maxLen∧(∀ k (hk:k < ts.length),ts[k].pages.length≤maxLen)∧ds.length≤maxLen∧(∀ k (h:k < ds.length),ds[k].name.size≤maxLen))∧(op.size≤maxLen∧ot.size≤maxLen)∧az.length≤maxLen∧(∀ k (hk:k < az.length),az[k].names.length≤maxLen)∧∀ k (hk:k < az.length),∀ j (hj:j < az[k].names.length),az[k].names[j].size≤maxLen:=by
 obtain ⟨cs,rfl,hsz⟩:=okWide_struct Tryz.underlying69 hv;obtain ⟨fuel,hf⟩:=h;obtain ⟨l⟩:=cs;obtain ⟨c0,c1,c2,c3,c4,c5,c6,c7,c8,c9,c10,c11,c12,c13,c14,c15,c16,c17,c18,rfl⟩:=yaec (cs:=l) (hsz.trans yaca);obtain ⟨y0,y1,y2,y3,y4,n,hx,h0,h1,h2,h3,h4⟩:=zds Tryz.underlying69 hf;simp only[yaau,yabw,yaci,yabm,yaaj] at h0 h1 h2 h3 h4;obtain ⟨ws,ps,es,qs,hs,td,cd,vl,nm,fr,aW,aP,aS,aQ,aH,aT,aN,cW,cP,cS,cQ,cH,cT,cN,eF,rF,bF,zF⟩:=zyu (c0:=c0) (c1:=c1) (c2:=c2) (c3:=c3) (c4:=c4) (c5:=c5) (c6:=c6) (c7:=c7) (c8:=c8) (c9:=c9) (by simpa[Value.cells] using h0);obtain ⟨z0,z1,m0,_,_,d0,d1⟩:=trod_struct2 Tryz.underlying65 h1;simp only[yabh,yacl] at d0 d1;obtain ⟨ts,a1,a2,a3,-⟩:=zwh (v:=c10) (by simpa[Value.cells] using d0);obtain ⟨ds,b1,b2,b3⟩:=zxy (v:=c11) (by simpa[Value.cells] using d1);obtain ⟨u0,u1,u2,u3,u4,n',_,t0,t1,t2,t3,t4⟩:=zds Tryz.underlying66 h2;simp only[yaal,zzs] at t0 t1 t2 t3 t4;obtain ⟨q0,e0,_,_⟩:=DataW.trod_int Tryz.underlying3 t0;obtain ⟨q1,e1,_,w1⟩:=DataW.trod_string Tryz.underlying9 t1;obtain ⟨q2,e2,_,w2⟩:=DataW.trod_string Tryz.underlying9 t2;obtain ⟨q3,e3,_,_⟩:=DataW.trod_int Tryz.underlying3 t3;obtain ⟨q4,e4,_,_⟩:=DataW.trod_int Tryz.underlying3 t4;obtain ⟨az,g1,g2,g3,g4⟩:=zuw (v:=c17) (by simpa[Value.cells] using h3);obtain ⟨ag,e9,_⟩:=DataW.trod_bool Tryz.underlying4 h4;simp[Value.cells] at e0 e1 e2 e3 e4 e9;subst e0 e1 e2 e3 e4 e9;simp only[Array.mk.injEq,List.cons.injEq,and_true] at eF;obtain ⟨rfl,rfl,rfl,rfl,rfl,rfl,rfl,rfl,rfl,rfl⟩:=eF;obtain ⟨aG,cG,rfl⟩:=a1.form;obtain ⟨aD,cD,rfl,_,_⟩:=b1.shape;obtain ⟨aR,cR,rfl⟩:=g1.form;exact ⟨ws,ps,es,qs,hs,td,cd,vl,nm,fr,ts,ds,q0,q1,q2,q3,q4,az,ag,⟨_,_,_,_,_,_,_,_,_,_,_,_,_,_,_,_,_,_,_,_,rfl,rF,⟨_,_,rfl,a1,b1⟩,g1⟩,⟨bF,zF⟩,⟨a2,a3,b2,b3⟩,⟨by simpa using w1,by simpa using w2⟩,g2,g3,fun k hk j hj=>g4 k hk j hj⟩
end Go.Proofs.YtbohndgbfbfldaaGreatDoor

namespace Go.Proofs.YtbohndgbfbfldaaGreatDoor
open Go.ChangeShapes Go.WideShapes Go.ChangeAt Go.RowKit
theorem yabf:Tryz.prog.cellsOf 3=1:=by kernel_rfl
theorem zlr:Tryz.prog.cellsOf 223=2:=by kernel_rfl
theorem yaap:Tryz.prog.cellsOf 224=12:=by kernel_rfl
theorem zrl {H:Type} {enc:TypeId×Value→H} {w:World} {base:Nat} {sp:Nat→Bool} {held:Bool} {fuel:Nat} {cs:List Value} {p:List MemPlace} {a b:Int}
  (h:DataW.trod enc Tryz.prog w base sp held fuel 223 cs=some (.agg [.lit (.int .i64 a),.lit (.int .i64 b)],p)):cs=[.int .i64 a,.int .i64 b]:=by
 obtain ⟨y0,y1,n,hx,hl,t0,t1⟩:=trod_struct2 Tryz.underlying223 h;obtain ⟨z0,e0,hy0,_⟩:=DataW.trod_int Tryz.underlying3 t0;obtain ⟨z1,e1,hy1,_⟩:=DataW.trod_int Tryz.underlying3 t1;rw[zlr] at hl;subst hy0 hy1;simp only[yabf] at e0 e1
 match cs,hl with
 | [c0,c1],_ =>
  simp at e0 e1 hx;subst e0 e1;rw[hx.1.1,hx.1.2]
theorem ztp {zs:List (Int×Int)} {cs:List Value} (hz:zs.length=6) (hl:cs.length=12) (chunk:∀ i,i < 6→∃ z,zs[i]?=some z∧(cs.drop (i*2)).take 2=[.int .i64 z.1,.int .i64 z.2]):cs=zs.flatMap fun z=>[.int .i64 z.1,.int .i64 z.2]:=by
 match zs,hz,cs,hl,chunk with
 | [z0,z1,z2,z3,z4,z5],_,[c0,c1,c2,c3,c4,c5,c6,c7,c8,c9,c10,c11],_,chunk =>
  have k0:=chunk 0 (by omega);have k1:=chunk 1 (by omega);have k2:=chunk 2 (by omega);have k3:=chunk 3 (by omega);have k4:=chunk 4 (by omega);have k5:=chunk 5 (by omega);simp at k0 k1 k2 k3 k4 k5;simp[k0,k1,k2,k3,k4,k5]
theorem zwl {H:Type} {enc:TypeId×Value→H} {w:World} {base:Nat} {sp:Nat→Bool} {held:Bool} {fuel:Nat} {cs:List Value} {p:List MemPlace} {zs:List (Int×Int)} (hz:zs.length=6)
  (h:DataW.trod enc Tryz.prog w base sp held fuel 224 cs=some (.agg (zs.map fun z=>.agg [.lit (.int .i64 z.1),.lit (.int .i64 z.2)]),p)):cs=zs.flatMap fun z=>[.int .i64 z.1,.int .i64 z.2]:=by
 cases fuel with
 | zero=>simp[DataW.trod] at h
 | succ fuel =>
  simp only[DataW.trod,Tryz.underlying224,zlr,yaap] at h
  split at h
  ·rename_i hl;obtain ⟨xs,hm,hx⟩:=Option.map_eq_some_iff.1 h
   have hxs:xs.map (·.1)=zs.map fun z=>(DataW.agg [.lit (.int .i64 z.1),.lit (.int .i64 z.2)]:DataW H):=by
    have:=congrArg Prod.fst hx;simpa using this
   refine ztp hz hl (fun i hi=>?_);obtain ⟨b,hb,hf⟩:=Lib.mapM_at hm i i (by simp[hi])
   have h2:(xs.map (·.1))[i]?=some b.1:=by simp[hb]
   rw[hxs,List.getElem?_map,List.getElem?_eq_getElem (by omega)] at h2;have h3:=Option.some.inj h2;obtain ⟨b1,b2⟩:=b;simp only at h3;subst h3;exact ⟨_,List.getElem?_eq_getElem (by omega),zrl hf⟩
  ·cases h
end Go.Proofs.YtbohndgbfbfldaaGreatDoor
