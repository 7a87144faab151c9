/- Several texts laid together: PiB, PiC, PiD. -/
import Derived.Test.YtbohndgbfbfldaaGreatDoorPiA
import Derived.Test.YtbohndgbfbfldaaGreatDoorZAF
import Derived.Laws.CopyRow
import Derived.Laws.CopyOwn
import Derived.Test.YtbohndgbfbfldaaGreatDoorZAG
set_option maxRecDepth 100000
set_option maxHeartbeats 4000000
namespace Go.Proofs.YtbohndgbfbfldaaGreatDoor
open Go.RowKit
theorem zuf (w:World) (b n:Nat) (hn:n≤8):(Instr.sliceAt 147 (.pointer (some ⟨b,3,none⟩)) none (some (.int .i64 (n:Int))) none).run Tryz.prog w=.ok (.slice (some ⟨b,3,none⟩) n 8) w:=by
 have al:Tryz.prog.arrayLen 147=8:=by kernel_rfl
 rw[run_sliceAt_array_h w 147 ⟨b,3,none⟩ (by kernel_rfl) .i64 (n:Int) (by omega) (by rw[al];omega),al]
 have sz:(sizeOf (Tryz.prog.elem 147)).run Tryz.prog w=.ok 1 w:=by kernel_rfl
 rw[sz];simp[Result.andThen,slicedAt,Addr.add]
theorem yadg (w:World) (b n:Nat) (hn:n≤8):(Instr.sliceAt 147 (.pointer (some ⟨b,3,none⟩)) (some (.int .i64 (n:Int))) none none).run Tryz.prog w=.ok (.slice (some (if n=8 then ⟨b,3,none⟩ else ⟨b,3+n,none⟩)) (8 - n) (8 - n)) w:=by
 have al:Tryz.prog.arrayLen 147=8:=by kernel_rfl
 rw[run_sliceAt_array_l w 147 ⟨b,3,none⟩ (by kernel_rfl) .i64 (n:Int) (by omega) (by rw[al];omega),al]
 have sz:(sizeOf (Tryz.prog.elem 147)).run Tryz.prog w=.ok 1 w:=by kernel_rfl
 rw[sz]
 by_cases h:n=8
 ·subst h;simp[Result.andThen,slicedAt]
 ·have h':¬ 8=n:=by omega
  simp only[Result.andThen,slicedAt];rw[if_neg (by omega),if_neg h];simp[Addr.add]
theorem Ino.cs_map (x:Ino) (k:Nat) (hk:k < 8):x.cs[3+k]?=some (.int .i64 (x.map[k]'(by rw[x.len];exact hk))):=by
 rcases (show k=0∨k=1∨k=2∨k=3∨k=4∨k=5∨k=6∨k=7 by omega) with rfl | rfl | rfl | rfl | rfl | rfl | rfl | rfl <;> rfl
theorem zzl {x:Ino} {w:World} {b n:Nat} (hn:n≤8) (hb:b < w.heap.size) (h:∀ j,w.cell? ⟨b,j,none⟩=x.cs[j]?):RdI w (.slice (some ⟨b,3,none⟩) n 8) (x.map.take n):=by
 have hl:(x.map.take n).length=n:=by rw[List.length_take,x.len];omega
 refine ⟨by rw[zbz,Nat.mul_one],some ⟨b,3,none⟩,8,by rw[hl],⟨by omega,fun e=>by cases e⟩,fun _=>⟨b,3,rfl,hb,fun j hj=>?_⟩⟩;rw[hl,Nat.mul_one] at hj;rw[h,x.cs_map j (by omega),zbs _ _ (by omega),List.getElem_take]
theorem yaaf {x:Ino} {w:World} {b n:Nat} (hn:n≤8) (hb:b < w.heap.size) (h:∀ j,w.cell? ⟨b,j,none⟩=x.cs[j]?):RdI w (.slice (some (if n=8 then ⟨b,3,none⟩ else ⟨b,3+n,none⟩)) (8 - n) (8 - n)) (x.map.drop n):=by
 have hl:(x.map.drop n).length=8 - n:=by rw[List.length_drop,x.len]
 refine ⟨by rw[zbz,Nat.mul_one],some (if n=8 then ⟨b,3,none⟩ else ⟨b,3+n,none⟩),8 - n,by rw[hl],⟨by omega,fun e=>by cases e⟩,fun hp=>?_⟩;rw[hl] at hp;refine ⟨b,3+n,by rw[if_neg (by omega)],hb,fun j hj=>?_⟩;rw[hl,Nat.mul_one] at hj;rw[h,Nat.add_assoc,x.cs_map (n+j) (by omega),zbs _ _ (by omega),List.getElem_drop]
theorem Ino.R.at' {x:Ino} (h:x.R) (k:Nat) (hk:k < x.map.length):-9223372036854775808≤x.map[k]∧x.map[k]≤9223372036854775807:=h _ (List.getElem_mem _)
theorem zsg (x:Ino) (w:World) (hT:TS w) (hr:x.R):Calls Tryz.prog 189 #[x.v] w fun e w'=>e=.returned (.bool (zeq x))∧Below w.heap.size w w':=by
 have hv:x.v=.agg x.cs.toArray:=rfl
 obtain ⟨W,hW⟩:∃ W,W=w.alloc (.cells x.cs.toArray 149):=⟨_,rfl⟩
 have CA:Hid (∀ j,W.cell? ⟨w.heap.size,j,none⟩=x.cs[j]?):=fun j=>by rw[hW];exact (zag (xs:=x.cs) (zae rfl) j).1
 have BW:Hid (Below w.heap.size w W):=by rw[hW];exact (Below.refl _ _).alloc (Nat.le_refl _) _
 have T:Hid (TS W):=hT.below BW.o
 have hWz:w.heap.size < W.heap.size:=by rw[hW];simp
 have c0:W.cell? ⟨w.heap.size,0,none⟩=some (.int .i64 x.kind):=CA.o 0;have c1:W.cell? ⟨w.heap.size,1,none⟩=some (.int .i64 x.size):=CA.o 1;have c2:W.cell? ⟨w.heap.size,2,none⟩=some (.int .i64 x.links):=CA.o 2;have HR:=zaa hr;subst hW;rw[hv];clear hT hr
 by_cases h0:x.kind=1
 case neg =>
  have E:=zaa (show zeq x=false by unfold zeq;rw[decide_eq_false h0];rfl)
  have q:(x.kind != 1)=true:=by rw[bne_iff_ne];exact h0
  go_enter Tryz.func189,Tryz.ntmps189;go_wp2;go_ret;exact ⟨zad E.o.symm,BW.o⟩
 have q:(x.kind != 1)=false:=by rw[h0];rfl
 by_cases h1:1≤x.links
 case neg =>
  have E:=zaa (show zeq x=false by unfold zeq;rw[decide_eq_true h0,decide_eq_false (show ¬ (1≤x.links∧x.links≤24) by omega)];rfl)
  have q2:x.links < 1:=by omega
  go_enter Tryz.func189,Tryz.ntmps189;go_wp2;go_ret;exact ⟨zad E.o.symm,BW.o⟩
 have q2:¬ x.links < 1:=by omega
 by_cases h2:x.links≤24
 case neg =>
  have E:=zaa (show zeq x=false by unfold zeq;rw[decide_eq_true h0,decide_eq_false (show ¬ (1≤x.links∧x.links≤24) by omega)];rfl)
  have q3:24 < x.links:=by omega
  go_enter Tryz.func189,Tryz.ntmps189;go_wp2;go_ret;exact ⟨zad E.o.symm,BW.o⟩
 have q3:¬ 24 < x.links:=by omega
 by_cases h3:0≤x.size∧x.size < 9
 case neg =>
  have E:=zaa (show zeq x=false by unfold zeq;rw[decide_eq_true h0,decide_eq_true (show 1≤x.links∧x.links≤24 by omega),decide_eq_false h3];rfl);have H3:=zaa h3;clear h3;go_enter Tryz.func189,Tryz.ntmps189;go_wp2_with (go_at_call 182;refine (zbv _ _ _ H3.o).mono ?_;rintro e w' ⟨rfl,rfl⟩);go_ret;exact ⟨zad E.o.symm,BW.o⟩
 have E:=zaa (show zeq x=(zol (x.map.take x.size.toNat) && zsc (x.map.drop x.size.toNat)) by unfold zeq;rw[decide_eq_true h0,decide_eq_true (show 1≤x.links∧x.links≤24 by omega),decide_eq_true h3];rfl)
 obtain ⟨n,hn⟩:∃ n:Nat,x.size=(n:Int):=⟨x.size.toNat,by omega⟩
 have hn8:n≤8:=by omega
 rw[show x.size.toNat=n by omega] at E;rw[hn] at c1 h3;have R1:=zaa (zzl (x:=x) hn8 hWz CA.o);have R2:=zaa (yaaf (x:=x) hn8 hWz CA.o);have s1:=zuf (w.alloc (.cells x.cs.toArray 149)) w.heap.size n hn8;have s2:=yadg (w.alloc (.cells x.cs.toArray 149)) w.heap.size n hn8;have L1:=zaa (show (x.map.take n).length≤2147483648 by rw[List.length_take];omega);have L2:=zaa (show (x.map.drop n).length≤2147483648 by rw[List.length_drop,x.len];omega);have RR:=zaa (show ∀ k (h:k < (x.map.take n).length),-9223372036854775808≤(x.map.take n)[k]∧(x.map.take n)[k]≤9223372036854775807 from fun k h=>by rw[List.getElem_take];exact HR.o.at' k _);have H3:=zaa h3;generalize (if n=8 then (⟨w.heap.size,3,none⟩:Addr) else ⟨w.heap.size,3+n,none⟩)=aT at s2 R2
 cases hq:zol (x.map.take n) with
 | false =>
  have TQ:=zaa hq;rw[hq] at E;clear h3 hn hq;go_enter Tryz.func189,Tryz.ntmps189;go_wp2_with fail;refine (zay _ _ _ H3.o).mono ?_;rintro e w' ⟨rfl,rfl⟩;go_wp2_with fail;refine (zeo _ _ _ R1.o L1.o T.o RR.o).mono ?_;rw[TQ.o];rintro e w' ⟨rfl,rfl⟩;go_wp2;go_ret;exact ⟨zad (by rw[E.o];rfl),BW.o⟩
 | true =>
  have TQ:=zaa hq;rw[hq] at E;clear h3 hn hq;go_enter Tryz.func189,Tryz.ntmps189;go_wp2_with fail;refine (zay _ _ _ H3.o).mono ?_;rintro e w' ⟨rfl,rfl⟩;go_wp2_with fail;refine (zeo _ _ _ R1.o L1.o T.o RR.o).mono ?_;rw[TQ.o];rintro e w' ⟨rfl,rfl⟩;go_wp2_with fail;refine (zgz _ _ _ R2.o L2.o).mono ?_;rintro e w' ⟨rfl,rfl⟩;go_wp2;go_ret;exact ⟨zad (by rw[E.o];rfl),BW.o⟩
def ufL (at_:Int) (zs:List Int) (k:Nat):List Se:=(List.range k).map (fun j:Nat=>⟨at_+(j:Int),zs.getD j 0⟩)
theorem yabm (a:Int) (zs:List Int) (k:Nat):(ufL a zs k).length=k:=by simp[ufL]
theorem zxj (a:Int) (zs:List Int) (k:Nat) (h:k < zs.length):ufL a zs (k+1)=ufL a zs k ++ [⟨a+(k:Int),zs[k]⟩]:=by
 unfold ufL;rw[List.range_succ,List.map_append];simp[List.getD_eq_getElem?_getD,List.getElem?_eq_getElem h]
theorem zih (a:Int) (v:Value) (zs:List Int) (w:World) (h:RdI w v zs) (hn:zs.length≤64) (ha:0≤a∧a≤1000) :
  Calls Tryz.prog 155 #[.int .i64 a,v] w fun e w'=>∃ v',e=.returned v'∧Row w' 151 2 w.heap.size w'.heap.size v' (ufL a zs zs.length).length (ses (ufL a zs zs.length))∧Below w.heap.size w w':=by
 obtain ⟨aU,cU,rfl,_,hcU⟩:=h.shape;have HU:=zaa hcU;obtain ⟨ha0,ha1⟩:=ha;clear h hcU;go_enter Tryz.func155,Tryz.ntmps155;go_wp2
 go_loopw [5,6,7,10] (fun vL _ _ i wr=>∃ m:Nat,m≤zs.length∧i=.int .i64 m∧Hid (UpI w wr vL (ufL a zs m))∧w.heap.size≤wr.heap.size) (fun _ _ _ i _=>zs.length - (intOf i).toNat)
 case atStart=>exact ⟨0,by omega,rfl,⟨World.ownsRow_nil _ _ _ _,Below.refl _ _⟩,Nat.le_refl _⟩
 case round =>
  obtain ⟨m,hm,rfl,I,hz⟩:=hrel
  by_cases hlt:m < zs.length
  ·obtain ⟨b,o,rfl,hbl,hcell⟩:=HU.o (by omega);have e0:=(I.o.b.cell (p:=⟨b,o+m,none⟩) hbl).trans (hcell m hlt)
   have m0:(0:Int)≤(m:Int):=by omega
   have m1:(m:Int) < (zs.length:Int):=by omega
   have NX:=zaa (zxj a zs m hlt)
   have hle:(ufL a zs m).length≤64:=by rw[yabm];omega
   clear hcell;generalize zs[m]=x at *
   obtain ⟨wb,hwb⟩:∃ wb:World,wb=wr.alloc (.cells #[.int .i64 (a+(m:Int)),.int .i64 x] 151):=⟨_,rfl⟩
   have IB:Hid (UpI w wb u5 (ufL a zs m)):=by rw[hwb];exact I.o.below ((Below.refl _ _).alloc (Nat.le_refl _) _)
   have RB:Hid (Rd wb 2 (.slice (some ⟨wr.heap.size,0,none⟩) 1 1) 1 (ses [⟨a+(m:Int),x⟩])):=by rw[hwb];exact yafc wr _ _
   have hzb:=IB.o.z;subst hwb
   go_wp2_with (first
    | (at_builtin;refine zaq _ rfl (.tmp 15) (.tmp 21) 144 rfl w.heap.size 151 (.agg #[.int .i64 0,.int .i64 0]) 2 16 Tryz.underlying144 yaeo rfl (by decide) _ _ _ rfl IB.o.l _ 1 _ rfl RB.o (zyi _) (by simp[maxLen];omega) (by omega) (by omega) ?_))
   intro vN wN hownN hgrN;have G:=zaa (IB.o.grow [⟨a+(m:Int),x⟩] hownN hgrN);rw[← NX.o] at G;have hzN:=G.o.z;clear hownN hgrN IB RB I;go_wp2
   go_roundw
   case rel=>exact ⟨m+1,by omega,by go_num,G,by omega⟩
   case measure=>simp[intOf];omega
  ·obtain rfl:m=zs.length:=by omega
   obtain ⟨-,aL,cL,hvL,-⟩:=(zai I.o.l).rd;subst hvL;go_wp2;go_ret;exact ⟨_,rfl,zai I.o.l,I.o.b⟩
theorem eq8 (a0 a1 a2 a3 a4 a5 a6 a7 b0 b1 b2 b3 b4 b5 b6 b7:Int) (w:World):(Op.equalIn 9999 147 (.agg #[.int .i64 a0,.int .i64 a1,.int .i64 a2,.int .i64 a3,.int .i64 a4,.int .i64 a5,.int .i64 a6,.int .i64 a7]) (.agg #[.int .i64 b0,.int .i64 b1,.int .i64 b2,.int .i64 b3,.int .i64 b4,.int .i64 b5,.int .i64 b6,.int .i64 b7])).run Tryz.prog w=.ok (decide ([a0,a1,a2,a3,a4,a5,a6,a7]=[b0,b1,b2,b3,b4,b5,b6,b7])) w:=by
 have U3:=Tryz.underlying3;have A3:=Tryz.isAgg3;have Z3:=Tryz.sizeOf3;rw[show (9999:Nat)=9998+1 from rfl,Op.equalIn];simp only[Sem.run_bind,run_underlying Tryz.underlying147,Result.andThen_ok];simp only[Std.Legacy.Range.forIn_eq_forIn_range',Std.Legacy.Range.size,Nat.sub_zero,Nat.add_sub_cancel,Nat.div_one,List.range'_succ,List.range'_zero,List.forIn_cons,List.forIn_nil];go_simp
 by_cases h0:a0=b0
 case neg=>simp[h0]
 by_cases h1:a1=b1
 case neg=>simp[h0,h1]
 by_cases h2:a2=b2
 case neg=>simp[h0,h1,h2]
 by_cases h3:a3=b3
 case neg=>simp[h0,h1,h2,h3]
 by_cases h4:a4=b4
 case neg=>simp[h0,h1,h2,h3,h4]
 by_cases h5:a5=b5
 case neg=>simp[h0,h1,h2,h3,h4,h5]
 by_cases h6:a6=b6
 case neg=>simp[h0,h1,h2,h3,h4,h5,h6]
 by_cases h7:a7=b7
 case neg=>simp[h0,h1,h2,h3,h4,h5,h6,h7]
 simp[h0,h1,h2,h3,h4,h5,h6,h7]
def zna (xs ys:List Int):Bool:=decide (xs=ys)
theorem zwb {xs ys:List Int} (h:xs=ys):zna xs ys=true:=decide_eq_true h
theorem zth {xs ys:List Int} (h:¬ xs=ys):zna xs ys=false:=decide_eq_false h
@[go_sem ↓] theorem yagh (k s l a0 a1 a2 a3 a4 a5 a6 a7 k' s' l' b0 b1 b2 b3 b4 b5 b6 b7:Int) (w:World):(Op.equalIn 10000 149 (.agg #[.int .i64 k,.int .i64 s,.int .i64 l,.int .i64 a0,.int .i64 a1,.int .i64 a2,.int .i64 a3,.int .i64 a4,.int .i64 a5,.int .i64 a6,.int .i64 a7]) (.agg #[.int .i64 k',.int .i64 s',.int .i64 l',.int .i64 b0,.int .i64 b1,.int .i64 b2,.int .i64 b3,.int .i64 b4,.int .i64 b5,.int .i64 b6,.int .i64 b7])).run Tryz.prog w=.ok (zna [k,s,l,a0,a1,a2,a3,a4,a5,a6,a7] [k',s',l',b0,b1,b2,b3,b4,b5,b6,b7]) w:=by
 have e8:=eq8 a0 a1 a2 a3 a4 a5 a6 a7 b0 b1 b2 b3 b4 b5 b6 b7 w;unfold zna
 by_cases g0:k=k'
 case neg=>go_simp
 by_cases g1:s=s'
 case neg=>go_simp
 by_cases g2:l=l'
 case neg=>go_simp
 subst g0 g1 g2;go_simp
 split
 ·rename_i h;rw[h]
 ·rename_i h;rw[Bool.not_eq_false] at h;rw[h]
theorem zil (x:Ino) (w:World) (hT:TS w) (hE:ED w) (hr:x.R):Calls Tryz.prog 154 #[x.v] w fun e w'=>e=.returned (.bool (zga x))∧Below w.heap.size w w':=by
 have hv:x.v=.agg x.cs.toArray:=rfl;have BW:Hid (Below w.heap.size w (w.alloc (.cells x.cs.toArray 149))):=(Below.refl _ _).alloc (Nat.le_refl _) _
 have CA:Hid (∀ j,(w.alloc (.cells x.cs.toArray 149)).cell? ⟨w.heap.size,j,none⟩=x.cs[j]?):=fun j=>(zag (xs:=x.cs) (zae rfl) j).1
 have T:Hid (TS (w.alloc (.cells x.cs.toArray 149))):=hT.below BW.o;obtain ⟨d0,d1,d2,d3,d4,d5,d6,d7,d8,d9,d10⟩:=ED.cells (hE.below BW.o);obtain ⟨p0,p1,p2,p3,p4,p5,p6,p7,p8,p9,p10⟩:=Ino.all CA.o;have LF:=zaa (fun w1 (h:TS w1)=>zsg x w1 h hr);rw[hv];clear hT hE hr CA
 by_cases h0:x.ns=[0,0,0,0,0,0,0,0,0,0,0]
 ·have E:=zaa (zwh h0);have q1:zna [x.kind,x.size,x.links,x.m0,x.m1,x.m2,x.m3,x.m4,x.m5,x.m6,x.m7] [0,0,0,0,0,0,0,0,0,0,0]=true:=zwb h0;clear h0;go_enter Tryz.func154,Tryz.ntmps154;go_wp2;go_ret;exact ⟨zad E.o.symm,BW.o⟩
 have q1:zna [x.kind,x.size,x.links,x.m0,x.m1,x.m2,x.m3,x.m4,x.m5,x.m6,x.m7] [0,0,0,0,0,0,0,0,0,0,0]=false:=zth h0
 by_cases h1:x.ns=[2,0,1,0,0,0,0,0,0,0,0]
 ·have E:=zaa (yabs h1);have q2:zna [x.kind,x.size,x.links,x.m0,x.m1,x.m2,x.m3,x.m4,x.m5,x.m6,x.m7] [2,0,1,0,0,0,0,0,0,0,0]=true:=zwb h1;clear h0 h1;go_enter Tryz.func154,Tryz.ntmps154;go_wp2;go_ret;exact ⟨zad E.o.symm,BW.o⟩
 have q2:zna [x.kind,x.size,x.links,x.m0,x.m1,x.m2,x.m3,x.m4,x.m5,x.m6,x.m7] [2,0,1,0,0,0,0,0,0,0,0]=false:=zth h1;have E:=zaa (yaad h0 h1);clear h0 h1;go_enter Tryz.func154,Tryz.ntmps154;go_wp2_with fail;refine (LF.o _ T.o).mono ?_;rw[E.o];rintro e w1 ⟨rfl,hb1⟩;have B1:=zaa (zab BW.o hb1 BW.o.size);clear hb1;go_wp2;go_ret;exact ⟨rfl,B1.o⟩
end Go.Proofs.YtbohndgbfbfldaaGreatDoor
