/- Several texts laid together: PiH, TrA. -/
import Derived.Test.YtbohndgbfbfldaaGreatDoorZAX
import Derived.Test.YtbohndgbfbfldaaGreatDoorZAI
import Derived.Test.YtbohndgbfbfldaaGreatDoorZAG
set_option maxRecDepth 100000
set_option maxHeartbeats 4000000
namespace Go.Proofs.YtbohndgbfbfldaaGreatDoor
open Go.RowKit
structure InI (W w:World) (vL:Value) (zs:List Int):Prop where
 l:w.ownsRow W.heap.size 3 1 vL zs.length (zdi zs)
 b:Below W.heap.size W w
theorem InI.z {W w:World} {vL:Value} {zs:List Int} (h:InI W w vL zs):W.heap.size≤w.heap.size:=h.b.size
theorem InI.below {W w w':World} {vL:Value} {zs:List Int} (h:InI W w vL zs) (hb:Below w.heap.size w w'):InI W w' vL zs :=
 ⟨((zai h.l).below hb (Nat.le_refl _)).1,zab h.b hb h.z⟩
theorem InI.grow {W w w':World} {vL v':Value} {zs:List Int} (h:InI W w vL zs) (x:Int) (ho:w'.ownsRow W.heap.size 3 1 v' (zs.length+1) (zdi zs ++ [.int .i64 x])) (hg:w.grownBy w' vL.ownBlock):InI W w' v' (zs ++ [x]) :=
 ⟨by rw[zwc,List.length_append];exact ho,h.b.grown hg h.z (fun q hq=>(h.l.lt q hq).1)⟩
theorem ztk (x:Int):∀ u∈[Value.int .i64 x],u.oneCell'=true:=by
 intro u hu;rw[List.mem_singleton.1 hu];rfl
def zss (zs:List Int):List Int:=zs.filter fun z=>z != 0
def zax (ws:List Ino):List Int:=ws.flatMap fun x=>zss x.map
def zlp (ws:List Ino) (k:Nat) (j:Nat):List Int:=zax (ws.take k) ++ zss (((ws[k]?).map Ino.map).getD [] |>.take j)
theorem znp (ws:List Ino) (k:Nat):zlp ws k 0=zax (ws.take k):=by simp[zlp,zss]
theorem zmm {ws:List Ino} {k:Nat} (hk:k < ws.length) {j:Nat} (hj:j < 8):zlp ws k (j+1)=if ws[k].map.getD j 0=0 then zlp ws k j else zlp ws k j ++ [ws[k].map.getD j 0]:=by
 have hl:j < ws[k].map.length:=hj
 have e:ws[k].map.getD j 0=ws[k].map[j]:=by rw[List.getD_eq_getElem?_getD,List.getElem?_eq_getElem hl];rfl
 unfold zlp zss;rw[List.getElem?_eq_getElem hk];simp only[Option.map_some,Option.getD_some];rw[List.take_succ_eq_append_getElem hl,List.filter_append,e]
 by_cases h:ws[k].map[j]=0
 ·rw[if_pos h,h];simp
 ·rw[if_neg h];simp[h]
theorem zml {ws:List Ino} {k:Nat} (hk:k < ws.length):zlp ws k 8=zax (ws.take (k+1)):=by
 unfold zlp zax;rw[List.getElem?_eq_getElem hk,List.take_succ_eq_append_getElem hk,List.flatMap_append];simp[Ino.map]
theorem znm (zs:List Int):(zss zs).length≤zs.length:=List.length_filter_le _ _
theorem zfw (ws:List Ino):(zax ws).length≤8*ws.length:=by
 induction ws with
 | nil=>simp[zax]
 | cons x ws ih =>
  have h1:=znm x.map;have h2:x.map.length=8:=rfl;unfold zax at *;rw[List.flatMap_cons,List.length_append,List.length_cons];omega
theorem zrd (ws:List Ino) (k j:Nat) (hk:k < ws.length) (hj:j≤8):(zlp ws k j).length≤8*ws.length:=by
 have h1:=zfw (ws.take k);have h2:=znm (((ws[k]?).map Ino.map).getD [] |>.take j)
 have h3:(((ws[k]?).map Ino.map).getD [] |>.take j).length≤j:=by rw[List.length_take];omega
 unfold zlp;rw[List.length_append];rw[List.length_take] at h1;omega
theorem idx8 (x:Ino) (j:Nat) (hj:j < 8) (w:World):(Instr.index 147 (.agg #[.int .i64 x.m0,.int .i64 x.m1,.int .i64 x.m2,.int .i64 x.m3,.int .i64 x.m4,.int .i64 x.m5,.int .i64 x.m6,.int .i64 x.m7]) (.int .i64 (j:Int))).run Tryz.prog w=.ok (.int .i64 (x.map.getD j 0)) w:=by
 rcases (show j=0∨j=1∨j=2∨j=3∨j=4∨j=5∨j=6∨j=7 by omega) with rfl | rfl | rfl | rfl | rfl | rfl | rfl | rfl <;> simp[Instr.index,run_underlying Tryz.underlying147,asIntOf,Ino.map,go_sem]
theorem zfm (v:Value) (ws:List Ino) (w:World) (h:RdN w v ws) (hn:ws.length≤4096) :
  Calls Tryz.prog 150 #[v] w fun e w'=>∃ v',e=.returned v'∧Row w' 3 1 w.heap.size w'.heap.size v' (zax ws).length (zdi (zax ws))∧Below w.heap.size w w':=by
 obtain ⟨aW,cW,rfl,_,hcW⟩:=h.shape;have HW:=zaa hcW;clear h hcW;go_enter Tryz.func150,Tryz.ntmps150;go_wp2
 go_loopw [3,5,7,10] (fun vL _ _ i wr=>∃ k:Nat,k≤ws.length∧i=.int .i64 k∧Hid (InI w wr vL (zax (ws.take k)))∧w.heap.size≤wr.heap.size) (fun _ _ _ i _=>ws.length - (intOf i).toNat)
 case atStart=>exact ⟨0,by omega,rfl,⟨World.ownsRow_nil _ _ _ _,Below.refl _ _⟩,Nat.le_refl _⟩
 case round =>
  obtain ⟨k,hk,rfl,I,hz⟩:=hrel
  by_cases hlt:k < ws.length
  ·obtain ⟨b,o,rfl,hbl,hcell⟩:=HW.o (by omega);obtain ⟨a0,a1,a2,a3,a4,a5,a6,a7,a8,a9,a10⟩:=hcell k hlt;have d0:=(I.o.b.cell (p:=⟨b,o+k*11,none⟩) hbl).trans a0;have d1:=(I.o.b.cell (p:=⟨b,o+k*11+1,none⟩) hbl).trans a1;have d2:=(I.o.b.cell (p:=⟨b,o+k*11+2,none⟩) hbl).trans a2;have d3:=(I.o.b.cell (p:=⟨b,o+k*11+3,none⟩) hbl).trans a3;have d4:=(I.o.b.cell (p:=⟨b,o+k*11+4,none⟩) hbl).trans a4;have d5:=(I.o.b.cell (p:=⟨b,o+k*11+5,none⟩) hbl).trans a5;have d6:=(I.o.b.cell (p:=⟨b,o+k*11+6,none⟩) hbl).trans a6;have d7:=(I.o.b.cell (p:=⟨b,o+k*11+7,none⟩) hbl).trans a7;have d8:=(I.o.b.cell (p:=⟨b,o+k*11+8,none⟩) hbl).trans a8;have d9:=(I.o.b.cell (p:=⟨b,o+k*11+9,none⟩) hbl).trans a9;have d10:=(I.o.b.cell (p:=⟨b,o+k*11+10,none⟩) hbl).trans a10
   have k0:(0:Int)≤(k:Int):=by omega
   have k1:(k:Int) < (ws.length:Int):=by omega
   have MZ:=zaa (znp ws k);have MF:=zaa (zml hlt);have MS:=zaa (fun j (hj:j < 8)=>zmm hlt hj);have ML:=zaa (fun j (hj:j≤8)=>zrd ws k j hlt hj);have HM:=zaa (fun j (hj:j < 8)=>ws[k].at j hj);clear a0 a1 a2 a3 a4 a5 a6 a7 a8 a9 a10 hcell;generalize ws[k]=x at *
   have START:Hid (InI w (wr.alloc (.cells x.cs.toArray 149)) u3 (zlp ws k 0)):=by
    have:=I.o.below ((Below.refl wr.heap.size wr).alloc (Nat.le_refl _) (.cells x.cs.toArray 149));unfold Hid;rw[MZ.o];exact this
   unfold Ino.cs at START;have hz0:=START.o.z;clear I;go_wp2
   go_loopw [3,7,16] (fun vL _ i wq=>∃ j:Nat,j≤8∧i=.int .i64 j∧Hid (InI w wq vL (zlp ws k j))∧w.heap.size≤wq.heap.size) (fun _ _ i _=>8 - (intOf i).toNat)
   case atStart=>exact ⟨0,by omega,rfl,START,hz0⟩
   case round =>
    obtain ⟨j,hj,rfl,J,hzj⟩:=hrel;clear START hz0 d0 d1 d2 d3 d4 d5 d6 d7 d8 d9 d10
    have j0:(0:Int)≤(j:Int):=by omega
    by_cases hlj:j < 8
    ·have j1:(j:Int) < 8:=by omega
     have ix:=idx8 x j hlj;have MJ:=zaa (MS.o j hlj);have hlen:=ML.o j (by omega);generalize x.map.getD j 0=z at ix MJ
     by_cases q:z=0
     ·have q':(z != 0)=false:=by rw[q];rfl
      have G:Hid (InI w wr u3 (zlp ws k (j+1))):=by unfold Hid;rw[MJ.o,if_pos q];exact J.o
      clear q J MJ;go_wp2
      go_roundw
      case rel=>exact ⟨j+1,by omega,by go_num,G,hzj⟩
      case measure=>simp[intOf];omega
     ·have q':(z != 0)=true:=by rw[bne_iff_ne];exact q
      have JB:Hid (InI w (wr.alloc (.cells #[.int .i64 z] 3)) u3 (zlp ws k j)):=J.o.below ((Below.refl _ _).alloc (Nat.le_refl _) _);have RB:=zaa (yaae wr z);have hzb:=JB.o.z
      have MN:Hid (zlp ws k (j+1)=zlp ws k j ++ [z]):=by unfold Hid;rw[MJ.o,if_neg q]
      clear q J MJ;go_wp2_with (at_builtin;refine zao _ rfl (.tmp 21) (.tmp 23) 22 rfl w.heap.size 3 (.int .i64 0) 1 8 Tryz.underlying22 zyo rfl (by decide) _ _ _ rfl JB.o.l _ 1 _ rfl RB.o (ztk _) (by simp[maxLen];omega) (by omega) (by omega) ?_);intro vN wN hownN hgrN;have G:=zaa (JB.o.grow z hownN hgrN);rw[← MN.o] at G;have hzN:=G.o.z;clear hownN hgrN JB RB;go_wp2
      go_roundw
      case rel=>exact ⟨j+1,by omega,by go_num,G,hzN⟩
      case measure=>simp[intOf];omega
    ·obtain rfl:j=8:=by omega
     have G:Hid (InI w wr u3 (zax (ws.take (k+1)))):=by unfold Hid;rw[← MF.o];exact J.o
     clear J;go_wp2
     go_roundw
     case rel=>exact ⟨k+1,by omega,by go_num,G,hzj⟩
     case measure=>simp[intOf];omega
  ·obtain rfl:k=ws.length:=by omega
   have E:=zaa (show zax (ws.take ws.length)=zax ws by rw[List.take_length]);rw[E.o] at I;obtain ⟨-,aL,cL,hvL,-⟩:=(zai I.o.l).rd;subst hvL;go_wp2;go_ret;exact ⟨_,rfl,zai I.o.l,I.o.b⟩
def zgu (hs:List Int):Bool:=decide (hs.length=128∧∀ k (h:k < hs.length),0≤hs[k]∧hs[k]≤64)
theorem zjk (v:Value) (hs:List Int) (w:World) (h:RdI w v hs) (_hn:hs.length≤1048576):Calls Tryz.prog 73 #[v] w fun e w'=>e=.returned (.bool (zgu hs))∧w'=w:=by
 have NO:=zaa (fun h=>show zgu hs=false from decide_eq_false h);have YES:=zaa (fun h=>show zgu hs=true from decide_eq_true h);obtain ⟨ao,cap,rfl,hcap,hc⟩:=h.shape
 by_cases c1:(hs.length:Int) > 4096
 ·rw[NO.o (fun q=>by omega)];go_enter Tryz.func73,Tryz.ntmps73;go_wp2;go_ret;exact ⟨rfl,rfl⟩
 by_cases c2:hs.length=128
 case neg =>
  rw[NO.o (fun q=>c2 q.1)]
  have q:((hs.length:Int) != 128)=true:=by rw[bne_iff_ne];omega
  go_enter Tryz.func73,Tryz.ntmps73;go_wp2;go_ret;exact ⟨rfl,rfl⟩
 obtain ⟨b,o,rfl,hbl,hcell⟩:=hc (by omega);have HC:=zaa hcell;have L128:=zaa c2;rw[show zgu hs=zgu hs from rfl];generalize hb:zgu hs=hB at *;clear hb hcell c1;rw[c2];clear c2 hcap;go_enter Tryz.func73,Tryz.ntmps73;go_wp2
 go_loopw [3] (fun i wr=>∃ m:Nat,m≤128∧i=.int .i64 (m:Int)∧wr=w∧Hid (∀ k (h:k < hs.length),k < m→0≤hs[k]∧hs[k]≤64)) (fun i _=>128 - (intOf i).toNat)
 case atStart=>exact ⟨0,by omega,rfl,rfl,fun k _ hk=>absurd hk (by omega)⟩
 case round =>
  obtain ⟨m,hm,rfl,rfl,J⟩:=hrel
  have m0:(0:Int)≤(m:Int):=by omega
  by_cases hlt:m < 128
  ·have m1:(m:Int) < 128:=by omega
   have hl:m < hs.length:=by have:=L128.o;omega
   have e0:=HC.o m hl
   by_cases q:0≤hs[m]∧hs[m]≤64
   ·have G:Hid (∀ k (h:k < hs.length),k < m+1→0≤hs[k]∧hs[k]≤64):=fun k hk hkm=>by
     rcases Nat.lt_succ_iff_lt_or_eq.1 hkm with r | rfl
     ·exact J.o k hk r
     ·exact q
    generalize hs[m]=z at *;clear J;go_wp2_with fail;refine (zak _ _ _ _ q).mono ?_;rintro e w' ⟨rfl,hw'⟩;subst w';go_wp2
    go_roundw
    case rel=>exact ⟨m+1,by omega,by go_num,(by first | rfl | trivial),G⟩
    case measure=>simp[intOf];omega
   ·have E:=zaa (NO.o (fun r=>q (r.2 m hl)));generalize hs[m]=z at *;obtain rfl:=E.o;go_wp2_with fail;refine (zbg _ _ _ _ q).mono ?_;rintro e w' ⟨rfl,hw'⟩;subst w';go_wp2;go_ret;exact ⟨rfl,rfl⟩
  ·obtain rfl:m=128:=by omega
   have E:=zaa (YES.o ⟨L128.o,fun k hk=>J.o k hk (by have:=L128.o;omega)⟩);obtain rfl:=E.o;go_wp2;go_ret;exact ⟨rfl,rfl⟩
end Go.Proofs.YtbohndgbfbfldaaGreatDoor
