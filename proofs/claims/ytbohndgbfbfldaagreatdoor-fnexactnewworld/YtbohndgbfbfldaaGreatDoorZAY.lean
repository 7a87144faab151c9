/- Several texts laid together: NdA, NdB. -/
import Derived.Test.YtbohndgbfbfldaaGreatDoorZAJ
import Derived.Test.YtbohndgbfbfldaaGreatDoorDev
import Derived.Deep.DeepCutAuto
import Derived.Deep.RegionWith
import Derived.BigRegion
set_option maxRecDepth 100000
set_option maxHeartbeats 4000000
namespace Go.Proofs.YtbohndgbfbfldaaGreatDoor
open Go.RowKit
def zdj:List Int:=List.replicate 336 0
def zbu:List Int:=List.replicate 32 0
theorem zbg:zdj.length=336:=List.length_replicate ..
theorem zdp:zbu.length=32:=List.length_replicate ..
def ndW:List Int:=((zdj.set 0 7).set 48 2).set 50 1
def n336:Array Value:=(zbk zdj).toArray
def n32:Array Value:=(zbk zbu).toArray
theorem zxs:madeCells #[Value.int .i64 0] (336*1)=n336:=by kernel_rfl
theorem yafh:madeCells #[Value.int .i64 0] (32*1)=n32:=by kernel_rfl
theorem zge (w:World):(Instr.makeSlice 22 (.int .i64 336) (.int .i64 336)).run Tryz.prog w=.ok (.slice (some ⟨w.heap.size,0,none⟩) 336 336) (w.alloc (.cells n336 3)):=by
 rw[← zxs];exact zbc (P:=Tryz.prog) 22 3 (.int .i64 0) 1 8 Tryz.underlying22 zmd .i64 .i64 336 (by decide) (by decide) w
theorem zjs (w:World):(Instr.makeSlice 22 (.int .i64 32) (.int .i64 32)).run Tryz.prog w=.ok (.slice (some ⟨w.heap.size,0,none⟩) 32 32) (w.alloc (.cells n32 3)):=by
 rw[← yafh];exact zbc (P:=Tryz.prog) 22 3 (.int .i64 0) 1 8 Tryz.underlying22 zmd .i64 .i64 32 (by decide) (by decide) w
structure NDc (w0 wx:World) (bw bs bx:Nat) (vP vQ:Value) (W:List Int):Prop where
 hw:wx.heap[bw]?=some (.cells (zbk W).toArray 3 (0,0))
 hs:wx.heap[bs]?=some (.cells n32 3 (0,0))
 hx:wx.heap[bx]?=some (.cells #[.slice (some ⟨bw,0,none⟩) 336 336,vP,.slice (some ⟨bs,0,none⟩) 32 32,vQ] 30 (0,0))
 d1:¬ bw=bs
 d2:¬ bw=bx
 d3:¬ bs=bx
 l1:w0.heap.size≤bw
 l2:w0.heap.size≤bs
 l3:w0.heap.size≤bx
 b:Below w0.heap.size w0 wx
theorem NDc.drew {w0 wx:World} {bw bs bx:Nat} {vP vQ:Value} {W:List Int} (h:NDc w0 wx bw bs bx vP vQ W):NDc w0 wx.drew bw bs bx vP vQ W :=
 ⟨h.hw,h.hs,h.hx,h.d1,h.d2,h.d3,h.l1,h.l2,h.l3,h.b.drew⟩
theorem NDc.mk0 {w0 wx:World} {bw bs bx:Nat} {vP vQ:Value} (hx:wx.heap[bx]?=some (.cells #[.slice (some ⟨bw,0,none⟩) 336 336,vP,.slice (some ⟨bs,0,none⟩) 32 32,vQ] 30 (0,0)))
  (hw:wx.heap[bw]?=some (.cells n336 3 (0,0))) (hs:wx.heap[bs]?=some (.cells n32 3 (0,0))) (d1:¬ bw=bs) (d2:¬ bw=bx) (d3:¬ bs=bx) (l1:w0.heap.size≤bw) (l2:w0.heap.size≤bs) (l3:w0.heap.size≤bx) (b:Below w0.heap.size w0 wx):NDc w0 wx bw bs bx vP vQ zdj:=⟨hw,hs,hx,d1,d2,d3,l1,l2,l3,b⟩
theorem NDc.store {w0 wx:World} {bw bs bx:Nat} {vP vQ:Value} {W:List Int} (h:NDc w0 wx bw bs bx vP vQ W) (j:Nat) (x:Int):NDc w0 (wx.setCell ⟨bw,j,none⟩ (.int .i64 x)) bw bs bx vP vQ (W.set j x):=by
 have d1:=h.d1;have d2:=h.d2;refine ⟨?_,(Below.heap_setCell _ _ _ _ (by simp only;omega)).trans h.hs,(Below.heap_setCell _ _ _ _ (by simp only;omega)).trans h.hx,h.d1,h.d2,h.d3,h.l1,h.l2,h.l3,h.b.setCell h.l1 _⟩;rw[← zqz];exact zal h.hw j _
theorem NDc.below {w0 wx wy:World} {bw bs bx:Nat} {vP vQ:Value} {W:List Int} (h:NDc w0 wx bw bs bx vP vQ W) (hb:Below wx.heap.size wx wy):NDc w0 wy bw bs bx vP vQ W :=
 ⟨(hb.block _ (Array.getElem?_eq_some_iff.1 h.hw).1).trans h.hw,(hb.block _ (Array.getElem?_eq_some_iff.1 h.hs).1).trans h.hs,(hb.block _ (Array.getElem?_eq_some_iff.1 h.hx).1).trans h.hx,h.d1,h.d2,h.d3,h.l1,h.l2,h.l3,zab h.b hb h.b.size⟩
theorem NDc.at {w0 wx:World} {bw bs bx:Nat} {vP vQ:Value} {W:List Int} (h:NDc w0 wx bw bs bx vP vQ W) (j:Nat) (hj:j < W.length):wx.cell? ⟨bw,j,none⟩=some (.int .i64 W[j])∧wx.frozen? ⟨bw,j,none⟩=false:=by
 obtain ⟨a,b⟩:=zag h.hw j;exact ⟨a.trans (zbs W j hj),b⟩
def NDr (w0:World) (s:Value) (wx:World):Prop:=∃ (bw bs bx:Nat) (aP aQ:Option Addr),s=.pointer (some ⟨bx,0,none⟩)∧NDc w0 wx bw bs bx (.slice aP 0 0) (.slice aQ 0 0) zdj
theorem NDr.mk {w0 wx:World} {bw bs bx:Nat} {aP aQ:Option Addr} (h:NDc w0 wx bw bs bx (.slice aP 0 0) (.slice aQ 0 0) zdj):NDr w0 (.pointer (some ⟨bx,0,none⟩)) wx:=⟨bw,bs,bx,aP,aQ,rfl,h⟩
theorem zqr {w:World} {b n:Nat} {zs:List Int} (h:w.heap[b]?=some (.cells (zbk zs).toArray 3 (0,0))) (hn:zs.length=n):RdI w (.slice (some ⟨b,0,none⟩) n n) zs:=by
 subst hn;refine ⟨by rw[zbz,Nat.mul_one],some ⟨b,0,none⟩,zs.length,rfl,⟨Nat.le_refl _,fun e=>by cases e⟩,fun _=>⟨b,0,rfl,(Array.getElem?_eq_some_iff.1 h).1,fun j hj=>?_⟩⟩;rw[Nat.zero_add];exact (zag (xs:=zbk zs) h j).1
theorem zmq {w:World} {b n:Nat} {zs:List Int} (h:w.heap[b]?=some (.cells (zbk zs).toArray 3 (0,0))) (hn:zs.length=n) (hm:n≤maxLen):Row w 3 1 b (b+1) (.slice (some ⟨b,0,none⟩) n n) n (zbk zs):=by
 subst hn;refine ⟨⟨by rw[zbz,Nat.mul_one],.inr ⟨b,zs.length,(zbk zs).toArray,rfl,Nat.le_refl _,h,Nat.le_refl _,hm,?_,?_⟩⟩,fun k hk=>by cases hk;exact Nat.lt_succ_self _⟩
 ·rw[List.size_toArray,zbz,Nat.mul_one]
 ·rw[Nat.mul_one,List.take_of_length_le (by rw[zbz];exact Nat.le_refl _)]
theorem zqo (w:World) (size:Nat) (a:Option Addr):Rd w size (.slice a 0 0) 0 []:=⟨by simp,a,0,rfl,⟨Nat.le_refl _,fun _=>rfl⟩,fun h=>absurd h (by omega)⟩
theorem zfr:ndW.length=336:=by unfold ndW;rw[List.length_set,List.length_set,List.length_set,zbg]
theorem NDc.rowDev {w0 wx:World} {bw bs bx:Nat} (h:NDc w0 wx bw bs bx (.slice none 0 0) (.slice none 0 0) ndW) {lo:Nat} (hlo:lo≤w0.heap.size):RowDev wx lo wx.heap.size (.agg #[.slice (some ⟨bw,0,none⟩) 336 336,.slice none 0 0,.slice (some ⟨bs,0,none⟩) 32 32,.slice none 0 0]) ndW [] zbu []:=by
 have l1:=h.l1;have l2:=h.l2;have d1:=h.d1;have u1:=(Array.getElem?_eq_some_iff.1 h.hw).1;have u2:=(Array.getElem?_eq_some_iff.1 h.hs).1;have r1:=zmq h.hw zfr (by simp[maxLen]);have r2:=zmq h.hs zdp (by simp[maxLen]);exact ⟨_,_,_,_,bw,bw+1,bs,bs+1,rfl,⟨_,_,rfl,by rw[zfr];exact r1,Row.nil _ _ _ _ _⟩,⟨_,_,rfl,by rw[zdp];exact r2.z,Row.nil _ _ _ _ _⟩,by omega,by omega,by omega,by omega,by omega⟩
def znk:Ino:=⟨2,0,1,0,0,0,0,0,0,0,0⟩
theorem yabr:znk.R:=fun z hz=>by
 simp[znk,Ino.map] at hz;omega
theorem yaap:iuC 0 znk=0∧iuL 0 znk=wrL 0 znk 8:=⟨by decide,by decide⟩
def zdf:List Se:=wrL 0 znk 8
theorem zvr:zdf.length=11:=rfl
def zxb (us:List Se) (W:List Int):Nat→List Int
 | 0=>W
 | k+1=>(zxb us W k).set ((us.getD k ⟨0,0⟩).at_.toNat) ((us.getD k ⟨0,0⟩).val)
theorem zqv (us:List Se) (W:List Int):∀ k,(zxb us W k).length=W.length
 | 0=>rfl
 | k+1=>by unfold zxb;rw[List.length_set];exact zqv us W k
theorem zyy:zxb zdf (zdj.set 0 7) 11=ndW:=by kernel_rfl
theorem zzb (k:Nat) (hk:k < zdf.length):zdf[k].at_=48+(k:Int):=by
 have hk':k < 11:=hk
 rcases (show k=0∨k=1∨k=2∨k=3∨k=4∨k=5∨k=6∨k=7∨k=8∨k=9∨k=10 by omega) with rfl | rfl | rfl | rfl | rfl | rfl | rfl | rfl | rfl | rfl | rfl <;> rfl
theorem zcy (w:World) (hT:TS w) (hE:ED w) :
  Calls Tryz.prog 43 #[] w fun e w'=>∃ v',e=.returned v'∧RowDev w' w.heap.size w'.heap.size v' ndW [] zbu []∧Below w.heap.size w w':=by
 have k1:=zge;have k2:=zjs;go_enter Tryz.func43,Tryz.ntmps43;go_upto_region 1 with fail
 obtain ⟨w0,hw0⟩:∃ w0:World,w0=w.alloc (.cells #[.slice none 0 0,.slice none 0 0,.slice none 0 0,.slice none 0 0] 30):=⟨_,rfl⟩
 have V0:Hid (w0.heap[w.heap.size]?=some (.cells #[.slice none 0 0,.slice none 0 0,.slice none 0 0,.slice none 0 0] 30 (0,0))):=by rw[hw0];exact zae rfl
 have B0:Hid (Below w.heap.size w w0):=by rw[hw0];exact (Below.refl _ _).alloc (Nat.le_refl _) _
 have hz0:w.heap.size < w0.heap.size:=by rw[hw0];simp
 rw[← hw0];have T:=zaa hT;have E0:=zaa hE;clear hw0 hT hE
 go_cut [1] (fun s wx=>∃ (bw bs bx:Nat),s=.pointer (some ⟨bx,0,none⟩)∧Hid (NDc w0 wx bw bs bx (.slice none 0 0) (.slice none 0 0) zdj))
 case first =>
  clear T E0 B0 V0
  go_region
  all_goals
   go_wp2_with fail
   go_meet
   apply Exists.intro;apply Exists.intro;apply Exists.intro;apply And.intro
   ·rfl
   ·apply NDc.drew;apply NDc.mk0
    ·first | exact zae (by simp) | exact zao (zae (by simp)) | exact zao (zao (zae (by simp)))
    ·first | exact zae (by simp) | exact zao (zae (by simp)) | exact zao (zao (zae (by simp)))
    ·first | exact zae (by simp) | exact zao (zae (by simp)) | exact zao (zao (zae (by simp)))
    ·omega
    ·omega
    ·omega
    ·omega
    ·omega
    ·omega
    ·repeat (first | exact Below.refl _ _ | refine Below.alloc ?_ (by simp <;> omega) _)
 case rest =>
 obtain ⟨bw,bs,bx,rfl,N1⟩:=hcut
 rename World=>w1
 clear k1 k2;have l1:=N1.o.l1;have l3:=N1.o.l3;obtain ⟨c0,f0⟩:=N1.o.at 0 (by rw[zbg];omega);obtain ⟨x0,x1,x2,x3,_,_,_,_⟩:=zaj N1.o.hx;have N2:=zaa (N1.o.store 0 7);have B2:=zaa (B0.o.trans (N2.o.b.mono (by omega)));have LI:=zaa (fun w1 (hb:Below w.heap.size w w1)=>zeh 0 znk w1 (T.o.below hb) (E0.o.below hb) yabr);rw[yaap.1,yaap.2,show wrL 0 znk 8=zdf from rfl] at LI;obtain ⟨g0,g1,g2,g3,g4,g5,g6,g7,g8,g9,g10⟩:=ED.cells (E0.o.below B2.o);generalize zdj[0]'(by rw[zbg];omega)=z0 at c0
 obtain ⟨w2s,hw2s⟩:∃ n,n=(w1.setCell ⟨bw,0,none⟩ (.int .i64 7)).heap.size:=⟨_,rfl⟩
 have hz2s:w2s≤w1.heap.size:=by rw[hw2s];simp
 go_wp2_with fail;refine (LI.o _ B2.o).mono ?_;rintro e w3 ⟨v3,rfl,hr3,hb3⟩;obtain ⟨-,aU,cU,hvU,-⟩:=hr3.rd;subst hvU;have N3:=zaa (N2.o.below hb3)
 have hz31:w1.heap.size≤w3.heap.size:=by have:=hb3.size;simpa using this
 have B3:=zaa (zab B2.o hb3 B2.o.size)
 have hbw:bw < w2s:=by rw[hw2s];simpa using (Array.getElem?_eq_some_iff.1 N1.o.hw).1
 have R3:Hid (Row w3 151 2 w2s w3.heap.size (.slice aU zdf.length cU) zdf.length (ses zdf)):=by rw[hw2s];exact hr3
 clear hr3 hb3 g0 g1 g2 g3 g4 g5 g6 g7 g8 g9 g10 c0 f0 x0 x1 x2 x3 N1 N2 B2 LI hw2s;have RA:=zaa zzb;have FIN:=zaa zyy;have UL:=zaa (fun k=>(zqv zdf (zdj.set 0 7) k).trans ((List.length_set ..).trans zbg))
 have US:=zaa (fun k (hk:k < zdf.length)=>show zxb zdf (zdj.set 0 7) (k+1)=(zxb zdf (zdj.set 0 7) k).set (zdf[k].at_.toNat) zdf[k].val by
  show (zxb zdf (zdj.set 0 7) k).set ((zdf.getD k ⟨0,0⟩).at_.toNat) ((zdf.getD k ⟨0,0⟩).val)=_
  rw[List.getD_eq_getElem?_getD,List.getElem?_eq_getElem hk];rfl)
 have UZ:Hid (NDc w0 w3 bw bs bx (.slice none 0 0) (.slice none 0 0) (zxb zdf (zdj.set 0 7) 0)):=N3;generalize zxb zdf (zdj.set 0 7)=uf at *;have HLL:=zaa zvr;have hl11:zdf.length≤11:=Nat.le_of_eq HLL.o;rw[← HLL.o] at FIN;generalize zdf=us at *
 have hz3:w2s≤w3.heap.size:=by omega
 clear N3;go_wp2
 go_loopw [5,22] (fun _ i wr=>∃ k:Nat,k≤us.length∧i=.int .i64 k∧Hid (NDc w0 wr bw bs bx (.slice none 0 0) (.slice none 0 0) (uf k)∧Row wr 151 2 w2s w3.heap.size (.slice aU us.length cU) us.length (ses us))∧w3.heap.size≤wr.heap.size) (fun _ i _=>us.length - (intOf i).toNat)
 case atStart=>exact ⟨0,by omega,rfl,⟨UZ.o,R3.o⟩,Nat.le_refl _⟩
 case round =>
  obtain ⟨k,hk,rfl,I,hzr⟩:=hrel;clear UZ R3
  by_cases hlt:k < us.length
  ·obtain ⟨aE,cE,eE,_,hcE⟩:=RdE.shape (show RdE wr (.slice aU us.length cU) us from I.o.2.rd)
   obtain ⟨rfl,rfl⟩:aE=aU∧cE=cU:=by cases eE;exact ⟨rfl,rfl⟩
   obtain ⟨b,o,rfl,hbl,hcell⟩:=hcE (by omega);obtain ⟨d0,d1⟩:=hcell k hlt;have ea:=RA.o k hlt;have NX:=zaa (US.o k hlt);have ul:=UL.o k
   have k0:(0:Int)≤(k:Int):=by omega
   have k1:(k:Int) < (us.length:Int):=by omega
   rw[ea] at d0;rw[ea,show (48+(k:Int)).toNat=48+k by omega] at NX
   have OB:Hid (∀ q,(Value.slice (some ⟨b,o,none⟩) us.length cE).ownBlock=some q→w2s≤q):=fun q hq=>(I.o.2.1.lt q hq).1
   generalize us[k].val=y at *;have ND:Hid (NDc w0 (wr.alloc (.cells #[.int .i64 (48+(k:Int)),.int .i64 y] 151)) bw bs bx (.slice none 0 0) (.slice none 0 0) (uf k)):=I.o.1.below ((Below.refl _ _).alloc (Nat.le_refl _) _);obtain ⟨x0,x1,x2,x3,_,_,_,_⟩:=zaj ND.o.hx;obtain ⟨c0,f0⟩:=ND.o.at (48+k) (by omega)
   have G:Hid (NDc w0 ((wr.alloc (.cells #[.int .i64 (48+(k:Int)),.int .i64 y] 151)).setCell ⟨bw,48+k,none⟩ (.int .i64 y)) bw bs bx (.slice none 0 0) (.slice none 0 0) (uf (k+1))∧Row ((wr.alloc (.cells #[.int .i64 (48+(k:Int)),.int .i64 y] 151)).setCell ⟨bw,48+k,none⟩ (.int .i64 y)) 151 2 w2s w3.heap.size (.slice (some ⟨b,o,none⟩) us.length cE) us.length (ses us)):=by
    refine ⟨?_,?_⟩
    ·rw[NX.o];exact ND.o.store (48+k) y
    ·refine Row.setOther (Row.alloc I.o.2 hzr _) (fun e=>?_) _;have:=OB.o _ e;simp only at this;omega
   have w48:48+(k:Int) < 336:=by omega
   have w49:(0:Int)≤48+(k:Int):=by omega
   have w50:(48+(k:Int)).toNat=48+k:=by omega
   generalize (uf k)[48+k]'(by omega)=z at c0;clear I ND hcell eE hcE OB ea NX;go_wp2
   go_roundw
   case rel=>exact ⟨k+1,by omega,by go_num,G,by simp;omega⟩
   case measure=>simp[intOf];omega
  ·obtain rfl:k=us.length:=by omega
   rw[FIN.o] at I;have N:=zaa I.o.1;clear I;obtain ⟨x0,x1,x2,x3,_,_,_,_⟩:=zaj N.o.hx;have VR:=zaa ((N.o.b.block _ hz0).trans V0.o);obtain ⟨y0,y1,y2,y3,y4,y5,y6,y7⟩:=zaj VR.o;have F:=zaa (zal (zal (zal (zal (xs:=[.slice none 0 0,.slice none 0 0,.slice none 0 0,.slice none 0 0]) VR.o 0 (.slice (some ⟨bw,0,none⟩) 336 336)) 1 (.slice none 0 0)) 2 (.slice (some ⟨bs,0,none⟩) 32 32)) 3 (.slice none 0 0));have l2:=N.o.l2
   have RF:Hid (RowDev ((((wr.setCell ⟨w.heap.size,0,none⟩ (.slice (some ⟨bw,0,none⟩) 336 336)).setCell ⟨w.heap.size,1,none⟩ (.slice none 0 0)).setCell ⟨w.heap.size,2,none⟩ (.slice (some ⟨bs,0,none⟩) 32 32)).setCell ⟨w.heap.size,3,none⟩ (.slice none 0 0)) w.heap.size ((((wr.setCell ⟨w.heap.size,0,none⟩ (.slice (some ⟨bw,0,none⟩) 336 336)).setCell ⟨w.heap.size,1,none⟩ (.slice none 0 0)).setCell ⟨w.heap.size,2,none⟩ (.slice (some ⟨bs,0,none⟩) 32 32)).setCell ⟨w.heap.size,3,none⟩ (.slice none 0 0)).heap.size (.agg #[.slice (some ⟨bw,0,none⟩) 336 336,.slice none 0 0,.slice (some ⟨bs,0,none⟩) 32 32,.slice none 0 0]) ndW [] zbu []):=by
    have r:=N.o.rowDev (lo:=w0.heap.size) (Nat.le_refl _)
    have o:Outside w.heap.size (w.heap.size+1) wr ((((wr.setCell ⟨w.heap.size,0,none⟩ (.slice (some ⟨bw,0,none⟩) 336 336)).setCell ⟨w.heap.size,1,none⟩ (.slice none 0 0)).setCell ⟨w.heap.size,2,none⟩ (.slice (some ⟨bs,0,none⟩) 32 32)).setCell ⟨w.heap.size,3,none⟩ (.slice none 0 0)):=by
     repeat (refine Outside.setCell ?_ (by simp only;omega) (by simp only;omega) _)
     exact Outside.refl _ _ _
    exact (r.outside o (by omega) (Nat.le_refl _)).wide (by omega) o.size
   have BF:Hid (Below w.heap.size w ((((wr.setCell ⟨w.heap.size,0,none⟩ (.slice (some ⟨bw,0,none⟩) 336 336)).setCell ⟨w.heap.size,1,none⟩ (.slice none 0 0)).setCell ⟨w.heap.size,2,none⟩ (.slice (some ⟨bs,0,none⟩) 32 32)).setCell ⟨w.heap.size,3,none⟩ (.slice none 0 0))):=by
    show Below _ _ _
    repeat (refine Below.setCell ?_ (by simp only;omega) _)
    exact B0.o.trans (N.o.b.mono (by omega))
   go_wp2;generalize ((((wr.setCell ⟨w.heap.size,0,none⟩ (.slice (some ⟨bw,0,none⟩) 336 336)).setCell ⟨w.heap.size,1,none⟩ (.slice none 0 0)).setCell ⟨w.heap.size,2,none⟩ (.slice (some ⟨bs,0,none⟩) 32 32)).setCell ⟨w.heap.size,3,none⟩ (.slice none 0 0))=wz at F RF BF ⊢;obtain ⟨t0,t1,t2,t3,-,-,-,-⟩:=zaj F.o;refine bodyPost_ret (v:=.agg #[.slice (some ⟨bw,0,none⟩) 336 336,.slice none 0 0,.slice (some ⟨bs,0,none⟩) 32 32,.slice none 0 0]) (by simp[results,Tryz.results43,go_sem,t0,t1,t2,t3]) rfl ?_;exact ⟨_,rfl,RF.o,BF.o⟩
end Go.Proofs.YtbohndgbfbfldaaGreatDoor
