import Derived.Test.YtfagbapgnocjiaaGreatDoorZBI
import Derived.Shelf.SlSortCmp.WholeK
import Derived.Shelf.SlSortCmp.NoneTotal
set_option maxRecDepth 100000
set_option maxHeartbeats 8000000
namespace Go.Proofs.YtfagbapgnocjiaaGreatDoor
open Go.RowKit
theorem zpb(v:Value)(ws:List Ino)(ps:List Den)(s:ByteArray)(w:World)(h:RdIm w v ws ps)(hw:ws.length<=1048576)(hp:ps.length<=1048576)(hT:TS w)(hE:ED w)(hF:FD w)(hr:∀ k (h:k<ws.length),ws[k].R)(hs:∀ k (h:k<ps.length),ps[k].name.size<=maxLen) :
  zC 11 #[v,.string s] w fun e w'=>e=.returned (.tuple #[.I (paR ws ps s).1,.string (paR ws ps s).2.1,.I (paR ws ps s).2.2])/\zB w w':=by
 have HR:=zaa h;have LS:=zaa (fun w1 (hb:zB w w1)=>znz v ws ps s w1 (h.below hb) hw hp (hT.below hb) (hE.below hb) (hF.below hb) hr hs);have LG:=zaa (fun vL ns w1 h hL hi hn hs=>zpm v vL ws ps ns w1 h hL hi hn hs);have LD:=zaa (fun(i:Nat) w1 h (hl:ws.length=16) (hi16:i<16)=>zob v ws ps (i:Int) w1 h hl (by omega));have SS:=zaa (@zuk s);have SL:=zaa (@zoj s);obtain⟨NO,YES⟩:=yaqv ws ps s;have NO:=zaa NO;have YES:=zaa YES;obtain⟨vW,vP,rfl,h1,h2⟩:=h;obtain⟨aW,cW,rfl,_,_⟩:=h1.shape;obtain⟨aP,cP,rfl,_,_⟩:=h2.shape;clear h1 h2 hr hs hT hE hF
 have CA:Hid (∀ w',Below (w.alloc (.cells #[.slice aW ws.length cW,.slice aP ps.length cP] 26)).heap.size (w.alloc (.cells #[.slice aW ws.length cW,.slice aP ps.length cP] 26)) w'->w'.cell? ⟨w.heap.size,0,none⟩=some (.slice aW ws.length cW)/\w'.cell? ⟨w.heap.size,1,none⟩=some (.slice aP ps.length cP)):=fun w' hb=>by
  have:w'.heap[w.heap.size]?=some (.cells #[.slice aW ws.length cW,.slice aP ps.length cP] 26 (0,0)):=(hb.block _ (by simp)).trans (zai rfl);exact⟨(zad this).1,(zad this).2.1⟩
 have BW:Hid (zB w (w.alloc (.cells #[.slice aW ws.length cW,.slice aP ps.length cP] 26))):=zR.alloc zL _;obtain⟨x0,x1⟩:=CA.o _ zR;generalize siC ws ps s=sc at *;generalize siL ws ps s=sl at *;generalize lkR ws ps s=res2 at *;generalize paR ws ps s=res at *
 by_cases c:sc=0
 case neg =>
  obtain⟨_,rfl⟩:=NO.o c
  have q:(sc != 0)=true:=by rw[bne_iff_ne];exact c
  clear NO YES c;go_enter Tryz.func11,Tryz.ntmps11;go_wp2_with fail;refine(LS.o _ BW.o).mono ?_;rintro e w1 ⟨v1,rfl,hr1,hb1⟩;have B1:=zaa (zab BW.o hb1 BW.o.size);clear hr1 hb1 x0 x1;go_wp2;go_ret3;exact⟨rfl,B1.o⟩
 obtain⟨c1,rfl,_,hres⟩:=YES.o c;have C1:=zaa c1;have EL2:=zaa hres;have WR:=zaa (fun ns=>zjm c1 ns 0 (by omega));have L16:=zaa (zao c1).1;subst c;clear NO YES c1 hres;generalize spL s=ns at *
 by_cases c2:ns=[]
 ·subst c2;obtain rfl:=EL2.o;clear EL2 LG;go_enter Tryz.func11,Tryz.ntmps11;go_wp2_with fail;refine(LS.o _ BW.o).mono ?_;rintro e w1 ⟨v1,rfl,hr1,hb1⟩;have B1:=zaa (zab BW.o hb1 BW.o.size);obtain⟨aL,cL,rfl,_,_⟩:=hr1.shape;clear hr1 hb1 x0 x1;simp only[List.length_nil];go_wp2;go_ret3;exact⟨rfl,B1.o⟩
 obtain⟨xs,x,rfl⟩:=zxj c2;rw[zly]at EL2;clear c2;have EP:=zaa (show paN ws ps xs x=if (wk ws ps 0 xs).2=0 then(if zag ws (wk ws ps 0 xs).1=2 then((wk ws ps 0 xs).1,x,0) else(0,⟨#[]⟩,10)) else(0,⟨#[]⟩,(wk ws ps 0 xs).2)from rfl);rw[EP.o]at EL2;clear EP;have sl:=SL.o;rw[List.length_append,List.length_cons,List.length_nil,Nat.zero_add]at sl
 have S1:Hid (∀ k (h:k<xs.length),1<=xs[k].size):=fun k hk=>by
  have:=SS.o k (by rw[List.length_append];omega);rw[List.getElem_append_left hk]at this;exact this
 have wr1:=WR.o xs;have LW2:=zaa (fun vL w1 h hL=>LG.o vL xs w1 h hL C1.o (by omega) S1.o)
 obtain⟨z,hz⟩:∃ z:Nat,(wk ws ps 0 xs).1=(z:Int):=⟨((wk ws ps 0 xs).1).toNat,by omega⟩
 have z16:z<16:=by omega
 rw[hz]at EL2 LW2;clear LG WR SL SS S1 wr1 hz;have LD2:=zaa (fun w1 h=>LD.o z w1 h L16.o z16);clear LD;generalize (wk ws ps 0 xs).2=wc at *;go_enter Tryz.func11,Tryz.ntmps11;go_wp2_with fail;refine(LS.o _ BW.o).mono ?_;rintro e w1 ⟨v1,rfl,hr1,hb1⟩;have B1:=zaa (zab BW.o hb1 BW.o.size);have BA:=zaa hb1;have hbn:(w.alloc (.cells #[.slice aW ws.length cW,.slice aP ps.length cP] 26)).heap.size<=w1.heap.size:=hb1.size;clear x0 x1;obtain⟨x0,x1⟩:=CA.o _ hb1;have R1:=zaa hr1;obtain⟨aL,cL,rfl,hcap,hcL⟩:=hr1.shape;obtain⟨b,o,rfl,hbl,hcell⟩:=hcL (by rw[List.length_append];simp)
 have hx:w1.cell? ⟨b,o+xs.length,none⟩=some (.string x):=by
  have:=hcell xs.length (by rw[List.length_append];simp);simpa using this
 have RT:Hid (RdT w1 (.slice (some ⟨b,o,none⟩) xs.length cL) xs):=by
  have:=zlf R1.o (m:=xs.length) (by rw[List.length_append];omega);rw[List.take_left]at this;exact this
 rw[List.length_append,List.length_cons,List.length_nil,Nat.zero_add]at hcap;simp only[List.length_append,List.length_cons,List.length_nil,Nat.zero_add];clear hr1 hb1 hcL hcell R1 LS;generalize xs.length=n at *
 have n0:(((n+1:Nat):Int) == 0)=false:=by rw[beq_eq_false_iff_ne];omega
 have nw:IntKind.i64.wrap (((n+1:Nat):Int)-1)=(n:Int):=by
  rw[show(((n+1:Nat):Int)-1)=(n:Int) by omega,IntKind.wrap_i64];omega
 have ncap:(n:Int)<=(cL:Int):=by omega
 have nw2:IntKind.i64.wrap ((n:Int)+1-1)=(n:Int):=by rw[IntKind.wrap_i64];omega
 have nw3:IntKind.i64.wrap (n:Int)=(n:Int):=by rw[IntKind.wrap_i64];omega
 have nn0:(0:Int)<=(n:Int):=by omega
 have nn1:(n:Int)<((n+1:Nat):Int):=by omega
 have nn2:(n:Int)<(n:Int)+1:=by omega
 have SK:Hid (∀ w',zB w1 w'->w'.cell? ⟨w.heap.size,0,none⟩=some (.slice aW ws.length cW)/\w'.cell? ⟨w.heap.size,1,none⟩=some (.slice aP ps.length cP)):=fun w' hb=>CA.o w' (zab BA.o hb hbn)
 have HX:Hid (∀ w',zB w1 w'->w'.cell? ⟨b,o+n,none⟩=some (.string x)):=fun w' hb=>(hb.cell (p:=⟨b,o+n,none⟩) hbl).trans hx
 have LW3:=zaa (fun w2 (hb:zB w1 w2)=>LW2.o _ w2 (HR.o.below (zab B1.o hb B1.o.size)) (Rd.below RT.o hb));clear LW2 RT hx
 by_cases q:wc=0
 case neg =>
  rw[if_neg q]at EL2;obtain rfl:=EL2.o
  have q1:(wc != 0)=true:=by rw[bne_iff_ne];exact q
  clear EL2 q;go_wp2_with fail
  go_region_held3 (fun w'=>w'.cell? ⟨w.heap.size,0,none⟩=some (.slice aW ws.length cW)/\w'.cell? ⟨w.heap.size,1,none⟩=some (.slice aP ps.length cP))
   (exact SK.o _ (by repeat (first | exact BF.o | exact zR | refine Below.drew ?_)))
   (first
    | (go_at_call 25;refine(LW3.o _ (by repeat (first | exact zR | refine Below.drew ?_))).mono ?_;rintro e w2 ⟨rfl,hb2⟩;have BF:Hid (zB w1 w2):=(by first | exact hb2 | exact zab (by repeat (first | exact zR | refine Below.drew ?_)) hb2 zL);clear hb2))
  all_goals
   have B3:=zaa (zab B1.o BF.o B1.o.size);clear SK x0 x1;go_wp2;go_ret3;exact⟨rfl,(by repeat (first | exact B3.o | refine Below.drew ?_))⟩
 rw[if_pos q]at EL2;subst q
 by_cases r:zag ws z=2
 case neg =>
  rw[if_neg r]at EL2;obtain rfl:=EL2.o
  have r1:(zag ws z == 2)=false:=by rw[beq_eq_false_iff_ne];exact r
  rw[r1]at LD2;clear EL2 r r1;go_wp2_with fail
  go_region_held3 (fun w'=>w'.cell? ⟨w.heap.size,0,none⟩=some (.slice aW ws.length cW)/\w'.cell? ⟨w.heap.size,1,none⟩=some (.slice aP ps.length cP))
   (exact SK.o _ (by repeat (first | exact BF.o | exact zR | refine Below.drew ?_)))
   (first
    | (go_at_call 25;refine(LW3.o _ (by repeat (first | exact zR | refine Below.drew ?_))).mono ?_;rintro e w2 ⟨rfl,hb2⟩;have BF:Hid (zB w1 w2):=(by first | exact hb2 | exact zab (by repeat (first | exact zR | refine Below.drew ?_)) hb2 zL);clear hb2))
  all_goals
   have B3:=zaa (zab B1.o BF.o B1.o.size);clear x0 x1;obtain⟨x0,x1⟩:=SK.o _ BF.o;clear SK;go_wp2_with fail;refine(LD2.o _ (HR.o.below (by repeat (first | exact B3.o | refine Below.drew ?_)))).mono ?_;rintro e w3 ⟨rfl,hb3⟩;have B4:Hid (zB w w3):=zab (by repeat (first | exact B3.o | refine Below.drew ?_)) hb3 (by have:=B3.o.size;simp<;>omega);clear hb3 x0 x1;go_wp2;go_ret3;exact⟨rfl,B4.o⟩
 rw[if_pos r]at EL2;obtain rfl:=EL2.o
 have r1:(zag ws z == 2)=true:=by rw[r];rfl
 rw[r1]at LD2;clear EL2 r r1;go_wp2_with fail
 go_region_held3 (fun w'=>w'.cell? ⟨w.heap.size,0,none⟩=some (.slice aW ws.length cW)/\w'.cell? ⟨w.heap.size,1,none⟩=some (.slice aP ps.length cP))
  (exact SK.o _ (by repeat (first | exact BF.o | exact zR | refine Below.drew ?_)))
  (first
   | (go_at_call 25;refine(LW3.o _ (by repeat (first | exact zR | refine Below.drew ?_))).mono ?_;rintro e w2 ⟨rfl,hb2⟩;have BF:Hid (zB w1 w2):=(by first | exact hb2 | exact zab (by repeat (first | exact zR | refine Below.drew ?_)) hb2 zL);clear hb2))
 all_goals
  have B3:=zaa (zab B1.o BF.o B1.o.size);clear x0 x1;obtain⟨x0,x1⟩:=SK.o _ BF.o;clear SK;go_wp2_with fail;refine(LD2.o _ (HR.o.below (by repeat (first | exact B3.o | refine Below.drew ?_)))).mono ?_;rintro e w3 ⟨rfl,hb3⟩;have B4:Hid (zB w w3):=zab (by repeat (first | exact B3.o | refine Below.drew ?_)) hb3 (by have:=B3.o.size;simp<;>omega);have B5:Hid (zB w1 w3):=zab (by repeat (first | exact BF.o | refine Below.drew ?_)) hb3 (by have:=BF.o.size;simp<;>omega);have hx:=HX.o _ B5.o;clear hb3 x0 x1;go_wp2_with fail
  go_region_held3 (fun w'=>w'.cell? ⟨b,o+n,none⟩=some (.string x))
   (exact HX.o _ (by repeat (first | exact B5.o | refine Below.drew ?_)))
   (fail)
  all_goals
   go_wp2;go_ret3;exact⟨rfl,(by repeat (first | exact B4.o | refine Below.drew ?_))⟩
end Go.Proofs.YtfagbapgnocjiaaGreatDoor

namespace Go.Proofs.YtfagbapgnocjiaaGreatDoor
open Go.Shelf Go.RowKit
def yahn:Go.Shelf.Ren:=⟨fun | 6=>18 | 15=>43 | 14=>42 | 28=>84 | 29=>85 | 20=>76 | 21=>77 | 22=>78 | 23=>79 | 24=>80 | 25=>81 | 26=>82 | 27=>83 | 46=>123 | 47=>124 | 48=>125 | 49=>126 | 50=>127 | 57=>155 | n=>n,fun | 22=>24 | 24=>52 | 25=>54 | 3=>3 | 39=>91 | 0=>0 | 53=>126 | 55=>128 | 4=>4 | 46=>119 | 45=>118 | 50=>123 | 5=>5 | 9=>9 | 66=>154 | 70=>158 | 76=>184 | 77=>31 | n=>n,fun | n=>n⟩
theorem yarq:Go.Proofs.SlLaysF0.n6 Tryz.prog yahn:={
 mixed:=by kernel_rfl
 f6:=⟨Tryz.f18.name,by decide,Tryz.func18.trans (congrArg some (by kernel_rfl))⟩
 f14:=⟨Tryz.f42.name,by decide,Tryz.func42.trans (congrArg some (by kernel_rfl))⟩
 f15:=Tryz.func43.trans (congrArg some (by kernel_rfl))
 f20:=⟨Tryz.f76.name,by decide,Tryz.func76.trans (congrArg some (by kernel_rfl))⟩
 f21:=⟨Tryz.f77.name,by decide,Tryz.func77.trans (congrArg some (by kernel_rfl))⟩
 f22:=⟨Tryz.f78.name,by decide,Tryz.func78.trans (congrArg some (by kernel_rfl))⟩
 f23:=⟨Tryz.f79.name,by decide,Tryz.func79.trans (congrArg some (by kernel_rfl))⟩
 f24:=⟨Tryz.f80.name,by decide,Tryz.func80.trans (congrArg some (by kernel_rfl))⟩
 f25:=⟨Tryz.f81.name,by decide,Tryz.func81.trans (congrArg some (by kernel_rfl))⟩
 f26:=⟨Tryz.f82.name,by decide,Tryz.func82.trans (congrArg some (by kernel_rfl))⟩
 f27:=⟨Tryz.f83.name,by decide,Tryz.func83.trans (congrArg some (by kernel_rfl))⟩
 f28:=Tryz.func84.trans (congrArg some (by kernel_rfl))
 f29:=Tryz.func85.trans (congrArg some (by kernel_rfl))
 f46:=⟨Tryz.f123.name,by decide,Tryz.func123.trans (congrArg some (by kernel_rfl))⟩
 f47:=Tryz.func124.trans (congrArg some (by kernel_rfl))
 f48:=Tryz.func125.trans (congrArg some (by kernel_rfl))
 f49:=⟨Tryz.f126.name,by decide,Tryz.func126.trans (congrArg some (by kernel_rfl))⟩
 f50:=⟨Tryz.f127.name,by decide,Tryz.func127.trans (congrArg some (by kernel_rfl))⟩
 f57:=⟨Tryz.f155.name,by decide,Tryz.func155.trans (congrArg some (by kernel_rfl))⟩
 t0:=Tryz.underlying0
 a0:=Tryz.isAgg0
 z0:=Tryz.sizeOf0
 v0:=Tryz.zeroValue0
 t3:=Tryz.underlying3
 a3:=Tryz.isAgg3
 z3:=Tryz.sizeOf3
 v3:=Tryz.zeroValue3
 t4:=Tryz.underlying4
 a4:=Tryz.isAgg4
 z4:=Tryz.sizeOf4
 v4:=Tryz.zeroValue4
 t5:=Tryz.underlying5
 a5:=Tryz.isAgg5
 z5:=Tryz.sizeOf5
 v5:=Tryz.zeroValue5
 t9:=Tryz.underlying9
 a9:=Tryz.isAgg9
 z9:=Tryz.sizeOf9
 v9:=Tryz.zeroValue9
 t22:=Tryz.underlying24
 a22:=Tryz.isAgg24
 z22:=Tryz.sizeOf24
 v22:=Tryz.zeroValue24
 t25:=Tryz.underlying54
 a25:=Tryz.isAgg54
 z25:=Tryz.sizeOf54
 v25:=Tryz.zeroValue54
 t39:=Tryz.underlying91
 a39:=Tryz.isAgg91
 z39:=Tryz.sizeOf91
 v39:=Tryz.zeroValue91
 t45:=Tryz.underlying118
 a45:=Tryz.isAgg118
 z45:=Tryz.sizeOf118
 v45:=Tryz.zeroValue118
 t46:=Tryz.underlying119
 a46:=Tryz.isAgg119
 z46:=Tryz.sizeOf119
 v46:=Tryz.zeroValue119
 t50:=Tryz.underlying123
 a50:=Tryz.isAgg123
 z50:=Tryz.sizeOf123
 v50:=Tryz.zeroValue123
 t53:=Tryz.underlying126
 a53:=Tryz.isAgg126
 z53:=Tryz.sizeOf126
 v53:=Tryz.zeroValue126
 t55:=Tryz.underlying128
 a55:=Tryz.isAgg128
 z55:=Tryz.sizeOf128
 v55:=Tryz.zeroValue128
 t66:=Tryz.underlying154
 a66:=Tryz.isAgg154
 z66:=Tryz.sizeOf154
 v66:=Tryz.zeroValue154
 t70:=Tryz.underlying158
 a70:=Tryz.isAgg158
 z70:=Tryz.sizeOf158
 v70:=Tryz.zeroValue158
 t76:=Tryz.underlying184
 a76:=Tryz.isAgg184
 z76:=Tryz.sizeOf184
 v76:=Tryz.zeroValue184
 t77:=Tryz.underlying31
 a77:=Tryz.isAgg31
 z77:=Tryz.sizeOf31
 v77:=Tryz.zeroValue31 }
end Go.Proofs.YtfagbapgnocjiaaGreatDoor

namespace Go.Proofs.YtfagbapgnocjiaaGreatDoor
open Go.RowKit Go.Sort
theorem yaow {w:World} {e:TypeId} {size lo hi b n c:Nat} {xs ys:List Value} (h:Row w e size lo hi (.slice (some ⟨b,0,none⟩) n c) n xs) (hy:ys.length=n*size) (m:Nat) (os:Array Obj) (w':World)
  (e':w'=grow (putRow id (Sort.ahead w m) b 0 ys.toArray) os):Row w' e size lo hi (.slice (some ⟨b,0,none⟩) n c) n ys/\w.grownBy w' (some b):=by
 obtain⟨h1,h2⟩:=h;obtain⟨hx,h1 | ⟨g,cap,cur,e1,hb,hg,hnc,hcm,hcs,htake⟩⟩:=h1
 ·cases h1.1
 cases e1
 have hbl:b<w.heap.size:=(Array.getElem?_eq_some_iff.1 hg).1
 have hg':w'.heap[b]?=some (.cells (putCells id 0 ys.toArray cur) e (0,0)):=by
  rw[e',heap_grow_old _ _ (by rw[size_putRow];exact hbl)];unfold putRow mapBlock
  show(w.heap.modify b _)[b]?=_
  rw[Array.getElem?_modify,if_pos rfl,hg];rfl
 have hcap:n*size<=c*size:=Nat.mul_le_mul_right _ hnc;refine⟨⟨⟨hy,.inr ⟨b,c,putCells id 0 ys.toArray cur,rfl,hb,hg',hnc,hcm,by unfold putCells;rw[Array.size_mapIdx];exact hcs,?_⟩⟩,h2⟩,?_⟩
 ·apply List.ext_getElem?;intro i;rw[List.getElem?_take,Array.getElem?_toList];unfold putCells;rw[Array.getElem?_mapIdx]
  by_cases hi:i<n*size
  ·rw[if_pos hi,Array.getElem?_eq_getElem (show i<cur.size by omega),List.getElem?_eq_getElem (show i<ys.length by omega)];simp only[Option.map_some];rw[if_pos ⟨Nat.zero_le _,by simp;omega⟩,Nat.sub_zero,getElem!_pos _ i (by simp;omega)];simp
  ·rw[if_neg hi,List.getElem?_eq_none (by omega)]
 ·refine⟨by rw[e'];rfl,by rw[e'];rfl,by rw[e'];rfl,by rw[e',size_grow,size_putRow];exact Nat.le_add_right _ _,fun k hk hne=>?_⟩;rw[e',heap_grow_old _ _ (by rw[size_putRow];exact hk)];unfold putRow mapBlock
  show(w.heap.modify b _)[k]?=_
  rw[Array.getElem?_modify,if_neg (fun x=>hne (by rw[x]))]
theorem ztb[Inhabited Den](ts:List Den):flatK zkm 3 ts.toArray=(dens ts).toArray:=by
 apply ext_get!
 ·simp[ziy]
 ·intro t ht;rw[size_flatK]at ht
  have ht':t<ts.length*3:=by simpa using ht
  rw[get_flatK _ _ _ _ ht]
  have hk:t/3<ts.length:=by omega
  have hm:t%3<3:=Nat.mod_lt _ (by omega);have e:=zbe Den.cells 3 (fun _=>rfl) ts (t/3) (t%3) hk hm;rw[show t/3*3+t%3=t by omega]at e;have e2:(dens ts)[t]?=(ts[t/3].cells)[t%3]?:=e;rw[getElem!_pos ts.toArray (t/3) (by simpa using hk)]
  have hl:t<(dens ts).length:=by rw[ziy];omega
  rw[getElem!_pos (dens ts).toArray t (by simpa using hl)];have l3:(zkm ts[t/3]).length=3:=rfl;rw[List.getElem?_eq_getElem hl,List.getElem?_eq_getElem (show t%3<(ts[t/3].cells).length from hm)]at e2;have e3:=Option.some.inj e2;simp only[List.getElem_toArray];rw[e3,getElem!_pos (zkm ts[t/3]) (t%3) (by rw[l3];exact hm)];rfl
theorem yaji[Inhabited Den]{w:World}{lo hi b n c:Nat}{ts:List Den}(h:Row w 52 3 lo hi (.slice (some ⟨b,0,none⟩) n c) n (dens ts)):HoldsK zkm 3 w b 0 ts.toArray:=by
 obtain⟨_,_,_,_,hf,hc⟩:=h.at
 have hl:=h.len;unfold HoldsK;rw[ztb];intro j hj
 have hj':j<(dens ts).length:=by simpa using hj
 rw[Nat.zero_add];refine⟨?_,hf j⟩;rw[hc j (by omega),List.getElem?_eq_getElem hj',getElem!_pos _ j hj];rfl
theorem yabu[Inhabited Den](blk off size:Nat)(w:World):CmpLays Tryz.prog 19 #[] zkm 3 zhq blk off size w :=
 fun _ _ _ _ x y=>yabw x y _
theorem yach[Inhabited Den]:zql:=by
 intro v ts lo hi w h hz hn
 rcases h.shape with ⟨rfl,e0,_⟩ | ⟨b,c,rfl,hc,_⟩
 ·have hs:ts=[]:=List.eq_nil_of_length_eq_zero e0;subst hs;refine(AnyF.slices_SortFunc_none yarq none 0 _ w).mono ?_;rintro e w' ⟨rfl,rfl⟩;exact⟨rfl,[],List.Perm.refl _,List.Pairwise.nil,h,Outside.refl _ _ _⟩
 ·have hh:=yaji h;have eg:∀ args w,(callFunc 19 args).run Tryz.prog w=.ok (.enter 19 args) w:=enters_of Tryz.func19 (by kernel_rfl) rfl;have hcon:=AnyQ.slices_SortFunc yarq 3 Tryz.isAgg52 Tryz.sizeOf52 zkm (fun _=>rfl) (fun x v hv=>by simp[zkm]at hv;rcases hv with rfl|rfl|rfl<;>rfl) zhq yaqw 19 #[] b 0 c ts.toArray w eg (yabu b 0 _ w) hh h.at.2.2.2.1 (by simp;omega);rw[show ts.toArray.size=ts.length by simp]at hcon;refine hcon.mono ?_;rintro e w' ⟨rfl,d',m,os,hp,hsd,hw'⟩;obtain⟨p1,-,p3⟩:=hp
  have p1':d'.size=ts.length:=by simpa using p1
  have perm:d'.toList.Perm ts:=by
   have e1:d'.extract 0 ts.length=d':=by rw[<- p1'];simp
   have e2:ts.toArray.extract 0 ts.length=ts.toArray:=by simp
   rw[e1,e2]at p3;simpa using p3
  have el:d'.toList.length=ts.length:=by simpa using p1'
  have fl:flatK zkm 3 d'=(dens d'.toList).toArray:=by rw[<- ztb]
  have hr:=yaow h (ys:=dens d'.toList) (by rw[ziy,el]) m os w' (by rw[hw'];unfold sortWorldK putRowK;rw[fl]);refine⟨rfl,d'.toList,perm,?_,by rw[el];exact hr.1,h.grown_outside hr.2⟩;rw[List.pairwise_iff_getElem];intro i j hi hj hij;have s:=hsd i j (Nat.zero_le _) hij (by omega);rw[getElem!_pos d' i (by simpa using hi),getElem!_pos d' j (by simpa using hj)]at s;have s2:=of_decide_eq_false s;unfold zhq at s2;rw[zdw,List.not_lt]at s2;rw[ByteArray.toList_eq,ByteArray.toList_eq];simpa using s2
theorem zsj:zql:=@yach ⟨⟨0,⟨#[]⟩,0⟩⟩
end Go.Proofs.YtfagbapgnocjiaaGreatDoor
