/- Several texts laid together: StS, StO, DtE. -/
import Derived.Test.YtehnphoeplmpdaaGreatDoorZAN
import Derived.Sort.Walk0
import Derived.Shelf.Sort.Plain
import Derived.Shelf.Slices.In.SortNone
import Derived.Test.YtehnphoeplmpdaaGreatDoorStN
import Derived.Test.YtehnphoeplmpdaaGreatDoorZAD
set_option maxRecDepth 100000
set_option maxHeartbeats 4000000
namespace Go.Proofs.YtehnphoeplmpdaaGreatDoor
open Go.Shelf Go.RowKit
def zvo:Go.Shelf.Ren:=⟨fun | 190=>177 | 125=>244 | 258=>243 | 128=>291 | 129=>292 | 302=>282 | 303=>283 | 304=>284 | 305=>285 | 306=>286 | 307=>287 | 308=>288 | 309=>289 | 310=>290 | 333=>314 | 329=>315 | 330=>316 | 334=>317 | 335=>318 | 336=>319 | 344=>325 | n=>n,fun | 31=>36 | 9=>9 | 3=>3 | 46=>258 | 0=>0 | 51=>304 | 53=>306 | 4=>4 | 183=>296 | 182=>295 | 131=>301 | 5=>5 | 218=>325 | 222=>329 | 228=>337 | 229=>89 | n=>n,fun | n=>n⟩
theorem yabt:Go.Proofs.Lays.n190 Tryz.prog zvo:={
 mixed:=by kernel_rfl
 f125:=Tryz.func244.trans (congrArg some (by kernel_rfl))
 f128:=Tryz.func291.trans (congrArg some (by kernel_rfl))
 f129:=Tryz.func292.trans (congrArg some (by kernel_rfl))
 f190:=Tryz.func177.trans (congrArg some (by kernel_rfl))
 f258:=Tryz.func243.trans (congrArg some (by kernel_rfl))
 f302:=Tryz.func282.trans (congrArg some (by kernel_rfl))
 f303:=Tryz.func283.trans (congrArg some (by kernel_rfl))
 f304:=Tryz.func284.trans (congrArg some (by kernel_rfl))
 f305:=Tryz.func285.trans (congrArg some (by kernel_rfl))
 f306:=Tryz.func286.trans (congrArg some (by kernel_rfl))
 f307:=Tryz.func287.trans (congrArg some (by kernel_rfl))
 f308:=Tryz.func288.trans (congrArg some (by kernel_rfl))
 f309:=Tryz.func289.trans (congrArg some (by kernel_rfl))
 f310:=Tryz.func290.trans (congrArg some (by kernel_rfl))
 f329:=Tryz.func315.trans (congrArg some (by kernel_rfl))
 f330:=Tryz.func316.trans (congrArg some (by kernel_rfl))
 f333:=Tryz.func314.trans (congrArg some (by kernel_rfl))
 f334:=Tryz.func317.trans (congrArg some (by kernel_rfl))
 f335:=Tryz.func318.trans (congrArg some (by kernel_rfl))
 f336:=Tryz.func319.trans (congrArg some (by kernel_rfl))
 f344:=Tryz.func325.trans (congrArg some (by kernel_rfl))
 t0:=Tryz.underlying0
 a0:=Tryz.isAgg0
 z0:=Tryz.sizeOf0
 v0:=Tryz.zeroValue0
 t3:=Tryz.underlying3
 a3:=Tryz.isAgg3
 z3:=Tryz.sizeOf3
 v3:=Tryz.zeroValue3
 t4:=Tryz.underlying4
 a4:=Tryz.isAgg4
 z4:=Tryz.sizeOf4
 v4:=Tryz.zeroValue4
 t5:=Tryz.underlying5
 a5:=Tryz.isAgg5
 z5:=Tryz.sizeOf5
 v5:=Tryz.zeroValue5
 t9:=Tryz.underlying9
 a9:=Tryz.isAgg9
 z9:=Tryz.sizeOf9
 v9:=Tryz.zeroValue9
 t31:=Tryz.underlying36
 a31:=Tryz.isAgg36
 z31:=Tryz.sizeOf36
 v31:=Tryz.zeroValue36
 t46:=Tryz.underlying258
 a46:=Tryz.isAgg258
 z46:=Tryz.sizeOf258
 v46:=Tryz.zeroValue258
 t51:=Tryz.underlying304
 a51:=Tryz.isAgg304
 z51:=Tryz.sizeOf304
 v51:=Tryz.zeroValue304
 t53:=Tryz.underlying306
 a53:=Tryz.isAgg306
 z53:=Tryz.sizeOf306
 v53:=Tryz.zeroValue306
 t131:=Tryz.underlying301
 a131:=Tryz.isAgg301
 z131:=Tryz.sizeOf301
 v131:=Tryz.zeroValue301
 t182:=Tryz.underlying295
 a182:=Tryz.isAgg295
 z182:=Tryz.sizeOf295
 v182:=Tryz.zeroValue295
 t183:=Tryz.underlying296
 a183:=Tryz.isAgg296
 z183:=Tryz.sizeOf296
 v183:=Tryz.zeroValue296
 t218:=Tryz.underlying325
 a218:=Tryz.isAgg325
 z218:=Tryz.sizeOf325
 v218:=Tryz.zeroValue325
 t222:=Tryz.underlying329
 a222:=Tryz.isAgg329
 z222:=Tryz.sizeOf329
 v222:=Tryz.zeroValue329
 t228:=Tryz.underlying337
 a228:=Tryz.isAgg337
 z228:=Tryz.sizeOf337
 v228:=Tryz.zeroValue337
 t229:=Tryz.underlying89
 a229:=Tryz.isAgg89
 z229:=Tryz.sizeOf89
 v229:=Tryz.zeroValue89 }
open Go.Sort in
theorem yadw (blk off cap:Nat) (ss:List (List UInt8)) (w:World) (hH:Holds encStr w blk off ss.toArray) (hblk:blk < w.heap.size) (hsz:ss.length < 4611686018427387904) :
  Calls Tryz.prog 177 #[.slice (some ⟨blk,off,none⟩) ss.length cap] w fun e w' =>
   e=.returned (.tuple #[])∧∃ n os,w'=grow (putRow encStr (Sort.ahead w n) blk off (ss.mergeSort fun x y=>decide (x≤y)).toArray) os:=Any.slices_Sort_string yabt blk off cap ss w hH hblk hsz
theorem yaiu (p:Option Addr) (cap:Nat) (w:World) :
  Calls Tryz.prog 177 #[.slice p 0 cap] w fun e w'=>e=.returned (.tuple #[])∧w'=w:=Any.slices_Sort_string_none yabt p cap w
end Go.Proofs.YtehnphoeplmpdaaGreatDoor
namespace Go.Proofs.YtehnphoeplmpdaaGreatDoor
open Go.RowKit Go.Sort
theorem zxq (ss:List ByteArray):zcy (zcp ss)=((ss.map fun s=>s.data.toList).mergeSort fun x y=>decide (x≤y)).map encStr:=by
 unfold zcy zcp;rw[List.map_map];rfl
theorem yacq {w:World} {lo hi b n c:Nat} {ss:List ByteArray} (h:Row w 9 1 lo hi (.slice (some ⟨b,0,none⟩) n c) n (zcy ss)):Holds encStr w b 0 (ss.map fun s=>s.data.toList).toArray:=by
 obtain ⟨_,_,_,_,hf,hc⟩:=h.at
 have hl:=h.len;rw[zgu] at hl;intro j hj
 have hj':j < ss.length:=by simpa using hj
 rw[Nat.zero_add];refine ⟨?_,hf j⟩;rw[hc j (by omega),zll ss j hj',getElem!_pos _ j hj];simp[encStr]
theorem yalt {w:World} {lo hi b n c:Nat} {ss:List ByteArray} (h:Row w 9 1 lo hi (.slice (some ⟨b,0,none⟩) n c) n (zcy ss)) (m:Nat) (os:Array Obj) (w':World)
  (e:w'=grow (putRow encStr (Sort.ahead w m) b 0 ((ss.map fun s=>s.data.toList).mergeSort fun x y=>decide (x≤y)).toArray) os) :
  Row w' 9 1 lo hi (.slice (some ⟨b,0,none⟩) n c) n (zcy (zcp ss))∧w.grownBy w' (some b):=by
 have hl:=h.len;rw[zgu,Nat.mul_one] at hl;obtain ⟨h1,h2⟩:=h;obtain ⟨hx,h1 | ⟨g,cap,cur,e1,hb,hg,hnc,hcm,hcs,htake⟩⟩:=h1
 ·cases h1.1
 cases e1
 have SD:=zxq ss
 have DL:((ss.map fun s=>s.data.toList).mergeSort fun x y=>decide (x≤y)).length=ss.length:=by rw[List.length_mergeSort,List.length_map]
 generalize (ss.map fun s=>s.data.toList).mergeSort (fun x y=>decide (x≤y))=D at *;have hbl:b < w.heap.size:=(Array.getElem?_eq_some_iff.1 hg).1
 have hg':w'.heap[b]?=some (.cells (putCells encStr 0 D.toArray cur) 9 (0,0)):=by
  rw[e,heap_grow_old _ _ (by rw[size_putRow];exact hbl)];unfold putRow mapBlock
  show (w.heap.modify b _)[b]?=_
  rw[Array.getElem?_modify,if_pos rfl,hg];rfl
 refine ⟨⟨⟨by rw[zgu,zgg];omega,.inr ⟨b,c,putCells encStr 0 D.toArray cur,rfl,hb,hg',hnc,hcm,by unfold putCells;rw[Array.size_mapIdx];exact hcs,?_⟩⟩,h2⟩,?_⟩
 ·rw[SD];apply List.ext_getElem?;intro i;rw[Nat.mul_one,List.getElem?_take,List.getElem?_map,Array.getElem?_toList];unfold putCells;rw[Array.getElem?_mapIdx]
  by_cases hi:i < n
  ·rw[if_pos hi,Array.getElem?_eq_getElem (show i < cur.size by omega),List.getElem?_eq_getElem (show i < D.length by omega)];simp only[Option.map_some];rw[if_pos ⟨Nat.zero_le _,by simp;omega⟩,Nat.sub_zero,getElem!_pos _ i (by simp;omega)];simp
  ·rw[if_neg hi,List.getElem?_eq_none (by omega)];rfl
 ·refine ⟨by rw[e];rfl,by rw[e];rfl,by rw[e];rfl,by rw[e,size_grow,size_putRow];exact Nat.le_add_right _ _,fun k hk hne=>?_⟩;rw[e,heap_grow_old _ _ (by rw[size_putRow];exact hk)];unfold putRow mapBlock
  show (w.heap.modify b _)[k]?=_
  rw[Array.getElem?_modify,if_neg (fun x=>hne (by rw[x]))]
theorem yakg (v:Value) (ss:List ByteArray) (lo hi:Nat) (w:World) (h:Row w 9 1 lo hi v ss.length (zcy ss)) (hn:ss.length≤1048576) :
  Calls Tryz.prog 177 #[v] w fun e w'=>e=.returned (.tuple #[])∧Row w' 9 1 lo hi v ss.length (zcy (zcp ss))∧w.grownBy w' v.ownBlock:=by
 rcases h.shape with ⟨rfl,e0,_⟩ | ⟨b,c,rfl,hc,_⟩
 ·refine (yaiu none 0 w).mono ?_;rintro e w' ⟨rfl,rfl⟩;have hs:ss=[]:=List.eq_nil_of_length_eq_zero e0;subst hs;exact ⟨rfl,by rw[show zcp []=[] by simp[zcp]];exact h,World.grownBy.refl _ _⟩
 ·have hh:=yacq h;have:=yadw b 0 c (ss.map fun s=>s.data.toList) w hh h.at.2.2.2.1 (by rw[List.length_map];omega);rw[List.length_map] at this;refine this.mono ?_;rintro e w' ⟨rfl,m,os,hw'⟩;exact ⟨rfl,yalt h m os w' hw'⟩
end Go.Proofs.YtehnphoeplmpdaaGreatDoor

namespace Go.Proofs.YtehnphoeplmpdaaGreatDoor
open Go.RowKit
theorem zle (v:Value) (ws:List Ino) (ps:List Den) (d:Int) (w:World) (h:RdIm w v ws ps) (hw:ws.length≤1048576) (hp:ps.length≤1048576) (hT:TS w) (hE:ED w) (hF:FD w) (hr:∀ k (h:k < ws.length),ws[k].R) (hs:∀ k (h:k < ps.length),ps[k].name.size≤maxLen) :
  Calls Tryz.prog 100 #[v,.int .i64 d] w fun e w'=>∃ v',e=.returned (.tuple #[v',.int .i64 (eoC ws ps d)])∧Row w' 9 1 w.heap.size w'.heap.size v' (eoL ws ps d).length (zcy (eoL ws ps d))∧Below w.heap.size w w':=by
 have LI:=zaa (fun w1 (hb:Below w.heap.size w w1)=>zbp v ws ps w1 (h.below hb) hw hp (hT.below hb) (hE.below hb) (hF.below hb) hr hs);have FD_:=zaa hF;obtain ⟨vW,vP,rfl,h1,h2⟩:=h;have RP:=zaa h2;obtain ⟨aW,cW,rfl,_,hcW⟩:=h1.shape;have HW:=zaa hcW;obtain ⟨aP,cP,rfl,_,_⟩:=h2.shape;have LM:=zaa (fun w1 (hb:Below w.heap.size w w1) (hl:ps.length≤4096)=>zhb (.slice aP ps.length cP) ps w1 (Rd.below RP.o hb) hl (FD_.o.below hb));clear h1 h2 hr hs hT hE hF hcW
 have CA:Hid (∀ w',Below (w.alloc (.cells #[.slice aW ws.length cW,.slice aP ps.length cP] 79)).heap.size (w.alloc (.cells #[.slice aW ws.length cW,.slice aP ps.length cP] 79)) w'→w'.cell? ⟨w.heap.size,0,none⟩=some (.slice aW ws.length cW)∧w'.cell? ⟨w.heap.size,1,none⟩=some (.slice aP ps.length cP)):=fun w' hb=>by
  have:w'.heap[w.heap.size]?=some (.cells #[.slice aW ws.length cW,.slice aP ps.length cP] 79 (0,0)):=(hb.block _ (by simp)).trans (zah rfl);exact ⟨(zac this).1,(zac this).2.1⟩
 have BW:Hid (Below w.heap.size w (w.alloc (.cells #[.slice aW ws.length cW,.slice aP ps.length cP] 79))):=(Below.refl _ _).alloc (Nat.le_refl _) _;obtain ⟨x0,x1⟩:=CA.o _ (Below.refl _ _)
 cases c1:zay ws ps with
 | false =>
  rw[c1] at LI
  have E1:eoC ws ps d=1:=by unfold eoC;rw[c1];rfl
  rw[show eoL ws ps d=[] by unfold eoL;rw[E1];rfl,E1];clear c1 E1;go_enter Tryz.func100,Tryz.ntmps100;go_wp2_with fail;refine (LI.o _ BW.o).mono ?_;rintro e w1 ⟨rfl,hb1⟩;have B1:=zaa (zab BW.o hb1 BW.o.size);clear hb1 x0 x1;go_wp2;go_ret2;exact ⟨_,rfl,Row.nil _ _ _ _ _,B1.o⟩
 | true =>
 rw[c1] at LI
 by_cases c2:0≤d∧d≤15
 case neg =>
  have E1:eoC ws ps d=4:=by unfold eoC;rw[if_pos c1,if_neg c2]
  rw[show eoL ws ps d=[] by unfold eoL;rw[E1];rfl,E1]
  have C2:Hid (¬ (0≤d∧d < 16)):=fun h=>c2 (by omega)
  clear c1 c2 E1;go_enter Tryz.func100,Tryz.ntmps100;go_wp2_with fail;refine (LI.o _ BW.o).mono ?_;rintro e w1 ⟨rfl,hb1⟩;have B1:=zaa (zab BW.o hb1 BW.o.size);clear hb1 x0 x1;go_wp2_with fail;refine (zbi _ _ _ C2.o).mono ?_;rintro e w2 ⟨rfl,hw2⟩;subst w2;go_wp2;go_ret2;exact ⟨_,rfl,Row.nil _ _ _ _ _,B1.o⟩
 obtain ⟨dn,hdn⟩:∃ n:Nat,d=(n:Int):=⟨d.toNat,by omega⟩
 have L24:=zaa (show ps.length≤4096 by have:=(zec c1).2.1;omega)
 have d1:dn < ws.length:=by have:=(zec c1).1;omega
 obtain ⟨bW,oW,rfl,hblW,hcellW⟩:=HW.o (by omega)
 have HK:Hid (∀ w',Below w.heap.size w w'→w'.cell? ⟨bW,oW+dn*11,none⟩=some (.int .i64 (zai ws d))):=fun w' hb=>by
  rw[hdn,zba d1];exact (hb.cell (p:=⟨bW,oW+dn*11,none⟩) hblW).trans (hcellW dn d1).1
 clear hcellW HW
 have C2:Hid (0≤d∧d < 16):=by unfold Hid;omega
 have d2:(0:Int)≤(dn:Int):=by omega
 have d3:(dn:Int) < (ws.length:Int):=by omega
 have ENC:Hid (eoC ws ps d=if zai ws d=2 then 0 else 10):=by unfold Hid eoC;rw[if_pos c1,if_pos c2]
 have ENL:Hid (eoC ws ps d=0→eoL ws ps d=zcp (zub (zap ps) d)):=fun h=>by unfold eoL;rw[if_pos h,yadx (yalf c1)]
 have ENN:Hid (eoC ws ps d=10→eoL ws ps d=[]):=fun h=>by unfold eoL;rw[h];rfl
 have tl:(zap ps).length≤24:=by have:=zoo ps;have:=(zec c1).2.1;omega
 generalize eoC ws ps d=EC at *;generalize eoL ws ps d=EL at *;generalize zai ws d=kd at *;clear c1 c2;subst hdn
 by_cases c3:kd=2
 case neg =>
  have e1:EC=10:=by rw[ENC.o,if_neg c3]
  rw[ENN.o e1,e1]
  have q:(kd != 2)=true:=by rw[bne_iff_ne];exact c3
  clear c3 e1 ENC ENL ENN;go_enter Tryz.func100,Tryz.ntmps100;go_wp2_with fail;refine (LI.o _ BW.o).mono ?_;rintro e w1 ⟨rfl,hb1⟩;have B1:=zaa (zab BW.o hb1 BW.o.size);clear x0 x1;obtain ⟨x0,x1⟩:=CA.o _ hb1;clear hb1;have k1:=HK.o w1 B1.o;go_wp2_with fail;refine (zaq _ _ _ C2.o).mono ?_;rintro e w2 ⟨rfl,hw2⟩;subst w2;go_wp2;go_ret2;exact ⟨_,rfl,Row.nil _ _ _ _ _,B1.o⟩
 have e1:EC=0:=by rw[ENC.o,if_pos c3]
 rw[ENL.o e1,e1]
 have q:(kd != 2)=false:=by rw[c3];rfl
 clear c3 e1 ENC ENL ENN;generalize zap ps=ts at *;go_enter Tryz.func100,Tryz.ntmps100;go_wp2_with fail;refine (LI.o _ BW.o).mono ?_;rintro e w1 ⟨rfl,hb1⟩;have B1:=zaa (zab BW.o hb1 BW.o.size);clear x0 x1;obtain ⟨x0,x1⟩:=CA.o _ hb1;clear hb1;have k1:=HK.o w1 B1.o;go_wp2_with fail;refine (zaq _ _ _ C2.o).mono ?_;rintro e w2 ⟨rfl,hw2⟩;subst w2;go_wp2_with fail;refine (LM.o _ B1.o L24.o).mono ?_;rintro e w2 ⟨v2,rfl,hr2,hb2⟩;obtain ⟨-,aM,cM,hvM,-⟩:=hr2.rd;subst hvM;have R2:Hid (RdD w2 (.slice aM ts.length cM) ts):=hr2.rd;have B2:=zaa (zab B1.o hb2 B1.o.size);have hz2:w.heap.size≤w2.heap.size:=B2.o.size;obtain ⟨aZ,cZ,eZ,_,hcZ⟩:=R2.o.shape;have HZ:=zaa hcZ
 obtain ⟨rfl,rfl⟩:aZ=aM∧cZ=cM:=by cases eZ;exact ⟨rfl,rfl⟩
 clear eZ hcZ hr2 hb2 x0 x1 k1 LI LM HK CA;go_wp2
 go_loopw [6,8,26] (fun vL _ i wr=>∃ k:Nat,k≤ts.length∧i=.int .i64 k∧Hid (SnI w2 wr vL (zub (ts.take k) (dn:Int)))∧w2.heap.size≤wr.heap.size) (fun _ _ i _=>ts.length - (intOf i).toNat)
 case atStart=>exact ⟨0,by omega,rfl,⟨World.ownsRow_nil _ _ _ _,Below.refl _ _⟩,Nat.le_refl _⟩
 case round =>
  obtain ⟨k,hk,rfl,I,hz⟩:=hrel
  by_cases hlt:k < ts.length
  ·obtain ⟨b,o,rfl,hbl,hcell⟩:=HZ.o (by omega);obtain ⟨a0,a1,a2⟩:=hcell k hlt;have f0:=(I.o.b.cell (p:=⟨b,o+k*3,none⟩) hbl).trans a0;have f1:=(I.o.b.cell (p:=⟨b,o+k*3+1,none⟩) hbl).trans a1;have f2:=(I.o.b.cell (p:=⟨b,o+k*3+2,none⟩) hbl).trans a2
   have k0:(0:Int)≤(k:Int):=by omega
   have k1:(k:Int) < (ts.length:Int):=by omega
   have US:=zaa (yaes (d:=(dn:Int)) hlt);have UL:=yabh (ts.take k) (dn:Int);rw[List.length_take] at UL;clear hcell a0 a1 a2;generalize ts[k]=x at *
   obtain ⟨wx,hwx⟩:∃ wx,wx=wr.alloc (.cells #[.int .i64 x.dir,.string x.name,.int .i64 x.child] 185):=⟨_,rfl⟩
   have BX:Hid (Below wr.heap.size wr wx):=by rw[hwx];exact (Below.refl _ _).alloc (Nat.le_refl _) _
   have IX:=zaa (I.o.below BX.o);have hzx:=IX.o.z
   by_cases r:x.dir=(dn:Int)
   ·have r':(x.dir == (dn:Int))=true:=by rw[beq_iff_eq];exact r
    have JB:Hid (SnI w2 (wx.alloc (.cells #[.string x.name] 9)) u6 (zub (ts.take k) (dn:Int))):=IX.o.below ((Below.refl _ _).alloc (Nat.le_refl _) _);have RB:=zaa (zhg wx x.name);have hzb:=JB.o.z
    have MN:Hid (zub (ts.take (k+1)) (dn:Int)=zub (ts.take k) (dn:Int) ++ [x.name]):=by unfold Hid;rw[US.o,if_pos r]
    rw[hwx] at JB RB hzb;simp only[World.size_alloc] at RB hzb;clear r I US IX BX;go_wp2_with (at_builtin;refine zag _ rfl (.tmp 34) (.tmp 37) 36 rfl w2.heap.size 9 (.string ⟨#[]⟩) 1 16 Tryz.underlying36 zew rfl (by decide) _ _ _ rfl JB.o.l _ 1 _ rfl RB.o (zbh _) (by simp[maxLen];omega) (by omega) JB.o.z ?_);intro vN wN hownN hgrN;have G:=zaa (JB.o.grow [x.name] rfl hownN hgrN);rw[← MN.o] at G;have hzN:=G.o.z;clear hownN hgrN JB RB;go_wp2
    go_roundw
    case rel=>exact ⟨k+1,by omega,by go_num,G,hzN⟩
    case measure=>simp[intOf];omega
   ·have r':(x.dir == (dn:Int))=false:=by rw[beq_eq_false_iff_ne];exact r
    have G:Hid (SnI w2 wx u6 (zub (ts.take (k+1)) (dn:Int))):=by unfold Hid;rw[US.o,if_neg r];exact IX.o
    clear r I US IX BX;go_wp2;rw[← hwx]
    go_roundw
    case rel=>exact ⟨k+1,by omega,by go_num,G,hzx⟩
    case measure=>simp[intOf];omega
  ·obtain rfl:k=ts.length:=by omega
   have E:=zaa (show zub (ts.take ts.length) (dn:Int)=zub ts (dn:Int) by rw[List.take_length]);rw[E.o] at I;have SL:=yabh ts (dn:Int);have SRT:=zaa (yakg u6 (zub ts (dn:Int)) w2.heap.size wr.heap.size wr (zad I.o.l) (by omega));have SLN:=zaa (zgg (zub ts (dn:Int)));go_wp2_with fail;refine SRT.o.mono ?_;rintro e w3 ⟨rfl,hr3,hg3⟩;have B3:Hid (Below w2.heap.size w2 w3):=I.o.b.grown hg3 hz (fun q hq=>(I.o.l.lt q hq).1);have R3:=zaa (hr3.wide hz2 hg3.size);obtain ⟨-,aL,cL,hvL,-⟩:=hr3.rd;subst hvL;clear hr3 hg3 I SRT;go_wp2;go_ret2;exact ⟨_,rfl,by rw[SLN.o];exact R3.o,zab B2.o B3.o hz2⟩
def opB (k:Int) (p t:ByteArray) (g x:Int):Bool:=decide ((1≤k∧k≤10)∧p.size≤65536∧t.size≤65536∧(k=4∨k=5∨t.size=0)∧(k=6∨x=0)∧((6≤k∧k≤8)∨g=0))
theorem zuh (k:Int) (p t:ByteArray) (g x:Int) (w:World) :
  Calls Tryz.prog 32 #[.agg #[.int .i64 k,.string p,.string t,.int .i64 g,.int .i64 x]] w fun e w'=>e=.returned (.bool (opB k p t g x))∧Below w.heap.size w w':=by
 have BW:=zaa ((Below.refl w.heap.size w).alloc (Nat.le_refl _) (.cells #[.int .i64 k,.string p,.string t,.int .i64 g,.int .i64 x] 50));have ET:=zaa (zpr t);have NO:=zaa (fun h=>show opB k p t g x=false from decide_eq_false h);have YES:=zaa (fun h=>show opB k p t g x=true from decide_eq_true h)
 obtain ⟨W,hW⟩:∃ W,W=w.alloc (.cells #[.int .i64 k,.string p,.string t,.int .i64 g,.int .i64 x] 50):=⟨_,rfl⟩
 rw[← hW] at BW
 have CB:Hid (W.heap[w.heap.size]?=some (.cells #[.int .i64 k,.string p,.string t,.int .i64 g,.int .i64 x] 50 (0,0))):=by rw[hW];exact zah rfl
 have x0:W.cell? ⟨w.heap.size,0,none⟩=some (.int .i64 k):=by rw[hW];simp[go_sem]
 have x1:W.cell? ⟨w.heap.size,1,none⟩=some (.string p):=by rw[hW];simp[go_sem]
 have x2:W.cell? ⟨w.heap.size,2,none⟩=some (.string t):=by rw[hW];simp[go_sem]
 have x3:W.cell? ⟨w.heap.size,3,none⟩=some (.int .i64 g):=by rw[hW];simp[go_sem]
 have x4:W.cell? ⟨w.heap.size,4,none⟩=some (.int .i64 x):=by rw[hW];simp[go_sem]
 clear CB
 by_cases c1:1≤k∧k≤10
 case neg =>
  rw[NO.o (fun h=>c1 h.1)];go_enter Tryz.func32,Tryz.ntmps32;go_wp2_with fail;rw[← hW];clear hW;refine (zcg _ _ _ _ c1).mono ?_;rintro e w' ⟨rfl,hw'⟩;subst w';go_wp2;go_ret;exact ⟨rfl,BW.o⟩
 by_cases c2:(65536:Int) < (p.size:Int)
 case pos =>
  rw[NO.o (fun h=>by have:=h.2.1;omega)];go_enter Tryz.func32,Tryz.ntmps32;go_wp2_with fail;rw[← hW];clear hW;refine (zar _ _ _ _ c1).mono ?_;rintro e w' ⟨rfl,hw'⟩;subst w';go_wp2;go_ret;exact ⟨rfl,BW.o⟩
 by_cases c3:(65536:Int) < (t.size:Int)
 case pos =>
  rw[NO.o (fun h=>by have:=h.2.2.1;omega)];go_enter Tryz.func32,Tryz.ntmps32;go_wp2_with fail;rw[← hW];clear hW;refine (zar _ _ _ _ c1).mono ?_;rintro e w' ⟨rfl,hw'⟩;subst w';go_wp2;go_ret;exact ⟨rfl,BW.o⟩
 by_cases d4:k=4
 case pos =>
  subst d4
  by_cases c8:x=0
  case neg =>
   rw[NO.o (fun h=>by have:=h.2.2.2.2.1;omega)]
   have q8:(x != 0)=true:=by rw[bne_iff_ne];exact c8
   go_enter Tryz.func32,Tryz.ntmps32;go_wp2_with fail;rw[← hW];clear hW;refine (zar _ _ _ _ c1).mono ?_;rintro e w' ⟨rfl,hw'⟩;subst w';go_wp2;go_ret;exact ⟨rfl,BW.o⟩
  subst c8
  by_cases c9:g=0
  ·rw[YES.o ⟨by omega,by omega,by omega,by omega,by omega,by omega⟩];subst c9;go_enter Tryz.func32,Tryz.ntmps32;go_wp2_with fail;rw[← hW];clear hW;refine (zar _ _ _ _ c1).mono ?_;rintro e w' ⟨rfl,hw'⟩;subst w';go_wp2_with fail;refine (zcg _ _ _ _ (by omega)).mono ?_;rintro e w' ⟨rfl,hw'⟩;subst w';go_wp2;go_ret;exact ⟨rfl,BW.o⟩
  ·rw[NO.o (fun h=>by have:=h.2.2.2.2.2;omega)]
   have q9:(g == 0)=false:=by rw[beq_eq_false_iff_ne];exact c9
   go_enter Tryz.func32,Tryz.ntmps32;go_wp2_with fail;rw[← hW];clear hW;refine (zar _ _ _ _ c1).mono ?_;rintro e w' ⟨rfl,hw'⟩;subst w';go_wp2_with fail;refine (zcg _ _ _ _ (by omega)).mono ?_;rintro e w' ⟨rfl,hw'⟩;subst w';go_wp2;go_ret;exact ⟨rfl,BW.o⟩
 by_cases d5:k=5
 case pos =>
  subst d5
  by_cases c8:x=0
  case neg =>
   rw[NO.o (fun h=>by have:=h.2.2.2.2.1;omega)]
   have q8:(x != 0)=true:=by rw[bne_iff_ne];exact c8
   go_enter Tryz.func32,Tryz.ntmps32;go_wp2_with fail;rw[← hW];clear hW;refine (zar _ _ _ _ c1).mono ?_;rintro e w' ⟨rfl,hw'⟩;subst w';go_wp2;go_ret;exact ⟨rfl,BW.o⟩
  subst c8
  by_cases c9:g=0
  ·rw[YES.o ⟨by omega,by omega,by omega,by omega,by omega,by omega⟩];subst c9;go_enter Tryz.func32,Tryz.ntmps32;go_wp2_with fail;rw[← hW];clear hW;refine (zar _ _ _ _ c1).mono ?_;rintro e w' ⟨rfl,hw'⟩;subst w';go_wp2_with fail;refine (zcg _ _ _ _ (by omega)).mono ?_;rintro e w' ⟨rfl,hw'⟩;subst w';go_wp2;go_ret;exact ⟨rfl,BW.o⟩
  ·rw[NO.o (fun h=>by have:=h.2.2.2.2.2;omega)]
   have q9:(g == 0)=false:=by rw[beq_eq_false_iff_ne];exact c9
   go_enter Tryz.func32,Tryz.ntmps32;go_wp2_with fail;rw[← hW];clear hW;refine (zar _ _ _ _ c1).mono ?_;rintro e w' ⟨rfl,hw'⟩;subst w';go_wp2_with fail;refine (zcg _ _ _ _ (by omega)).mono ?_;rintro e w' ⟨rfl,hw'⟩;subst w';go_wp2;go_ret;exact ⟨rfl,BW.o⟩
 have q4:(k != 4)=true:=by rw[bne_iff_ne];exact d4
 have q5:(k != 5)=true:=by rw[bne_iff_ne];exact d5
 by_cases c6:t.toList=[]
 case neg =>
  rw[NO.o (fun h=>by rcases h.2.2.2.1 with a | a | a;exact d4 a;exact d5 a;exact c6 (ET.o.2 a))]
  have qe:t.toList.isEmpty=false:=by rw[List.isEmpty_eq_false_iff];exact c6
  go_enter Tryz.func32,Tryz.ntmps32;go_wp2_with fail;rw[← hW];clear hW;refine (zar _ _ _ _ c1).mono ?_;rintro e w' ⟨rfl,hw'⟩;subst w';go_wp2;go_ret;exact ⟨rfl,BW.o⟩
 have t0:=ET.o.1 c6
 by_cases d6:k=6
 case pos =>
  subst d6;rw[YES.o ⟨by omega,by omega,by omega,by omega,by omega,by omega⟩];go_enter Tryz.func32,Tryz.ntmps32;go_wp2_with fail;rw[← hW];clear hW;refine (zar _ _ _ _ c1).mono ?_;rintro e w' ⟨rfl,hw'⟩;subst w';go_wp2_with fail;refine (zar _ _ _ _ (by omega)).mono ?_;rintro e w' ⟨rfl,hw'⟩;subst w';go_wp2;go_ret;exact ⟨rfl,BW.o⟩
 have q6:(k != 6)=true:=by rw[bne_iff_ne];exact d6
 by_cases c8:x=0
 case neg =>
  rw[NO.o (fun h=>by have:=h.2.2.2.2.1;omega)]
  have q8:(x != 0)=true:=by rw[bne_iff_ne];exact c8
  go_enter Tryz.func32,Tryz.ntmps32;go_wp2_with fail;rw[← hW];clear hW;refine (zar _ _ _ _ c1).mono ?_;rintro e w' ⟨rfl,hw'⟩;subst w';go_wp2;go_ret;exact ⟨rfl,BW.o⟩
 subst c8
 by_cases d7:6≤k∧k≤8
 case pos =>
  rw[YES.o ⟨by omega,by omega,by omega,by omega,by omega,by omega⟩];go_enter Tryz.func32,Tryz.ntmps32;go_wp2_with fail;rw[← hW];clear hW;refine (zar _ _ _ _ c1).mono ?_;rintro e w' ⟨rfl,hw'⟩;subst w';go_wp2_with fail;refine (zar _ _ _ _ (by omega)).mono ?_;rintro e w' ⟨rfl,hw'⟩;subst w';go_wp2;go_ret;exact ⟨rfl,BW.o⟩
 by_cases c9:g=0
 ·rw[YES.o ⟨by omega,by omega,by omega,by omega,by omega,by omega⟩];subst c9;go_enter Tryz.func32,Tryz.ntmps32;go_wp2_with fail;rw[← hW];clear hW;refine (zar _ _ _ _ c1).mono ?_;rintro e w' ⟨rfl,hw'⟩;subst w';go_wp2_with fail;refine (zcg _ _ _ _ (by omega)).mono ?_;rintro e w' ⟨rfl,hw'⟩;subst w';go_wp2;go_ret;exact ⟨rfl,BW.o⟩
 ·rw[NO.o (fun h=>by have:=h.2.2.2.2.2;omega)]
  have q9:(g == 0)=false:=by rw[beq_eq_false_iff_ne];exact c9
  go_enter Tryz.func32,Tryz.ntmps32;go_wp2_with fail;rw[← hW];clear hW;refine (zar _ _ _ _ c1).mono ?_;rintro e w' ⟨rfl,hw'⟩;subst w';go_wp2_with fail;refine (zcg _ _ _ _ (by omega)).mono ?_;rintro e w' ⟨rfl,hw'⟩;subst w';go_wp2;go_ret;exact ⟨rfl,BW.o⟩
end Go.Proofs.YtehnphoeplmpdaaGreatDoor
