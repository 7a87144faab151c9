/- A new file system: by model and program. -/
import Derived.Test.YtbohndgbfbfldaaGreatDoorFqC
import Derived.Test.YtbohndgbfbfldaaGreatDoorZAY
import Derived.Test.YtbohndgbfbfldaaGreatDoorNdC
import Derived.Test.YtbohndgbfbfldaaGreatDoorZBC
set_option maxRecDepth 100000
set_option maxHeartbeats 16000000
namespace Go.Proofs.YtbohndgbfbfldaaGreatDoor
open Go.RowKit
theorem NHL:(zbt 128).length=128:=by unfold zbt;simp
theorem NDL:3≤ndW.length∧3≤zbu.length:=⟨by rw[zfr];decide,by rw[zdp];decide⟩
theorem zpj (w:World):Calls Tryz.prog 41 #[] w fun e w'=>∃ v',e=.returned v'∧RdFs w' v' ndW zbu (zbt 128) [] 0 0 [] false∧Below w.heap.size w w':=by
 obtain ⟨V,hV⟩:∃ V,V=w.alloc (.cells zxf.toArray 36):=⟨_,rfl⟩
 have YV:Hid (V.heap[w.heap.size]?=some (.cells zxf.toArray 36 (0,0))):=by rw[hV];exact zae rfl
 have BV:Hid (Below w.heap.size w V):=by rw[hV];exact (Below.refl _ _).alloc (Nat.le_refl _) _
 have zV:Hid (w.heap.size < V.heap.size):=by rw[hV];simp[Hid]
 unfold zxf at hV;go_enter Tryz.func41,Tryz.ntmps41;go_upto_region 1 with fail;rw[← hV];clear hV;go_wp2_with fail;refine (zfe V).mono ?_;rintro e w1 ⟨v1,rfl,hr1,hb1⟩;obtain ⟨iW,jW,iP,jP,iS,jS,iQ,jQ,rfl,-,-⟩:=hr1.form;have D1:=zaa hr1;have B1:=zaa hb1;clear hr1 hb1;go_wp2_with fail;refine (zru w1).mono ?_;rintro e w2 ⟨v2,rfl,hr2,hb2⟩;have R2:Hid (RdI w2 v2 (zbt 128)):=hr2.rd;obtain ⟨-,iH,jH,hv2,-⟩:=hr2.rd;subst hv2;have D2:=zaa (D1.o.below hb2);have B2:=zaa (zab B1.o hb2 B1.o.size);have z2:Hid (V.heap.size≤w2.heap.size):=B2.o.size;clear hr2 hb2 D1 B1;have Y2:=zaa ((B2.o.block w.heap.size zV.o).trans YV.o)
 obtain ⟨X,hX⟩:∃ X,X=(w2.alloc (.cells #[] 120)).alloc (.cells #[] 9):=⟨_,rfl⟩
 have BX:Hid (Below w2.heap.size w2 X):=by rw[hX];exact ((Below.refl _ _).alloc (Nat.le_refl _) _).alloc (by simp) _
 have YX:Hid (X.heap[w.heap.size]?=some (.cells zxf.toArray 36 (0,0))):=by rw[hX];exact zao (zao Y2.o)
 have YX':X.heap[w.heap.size]?=some (.cells #[.slice none 0 0,.slice none 0 0,.slice none 0 0,.slice none 0 0,.slice none 0 0,.slice none 0 0,.int .i64 0,.int .i64 0,.slice none 0 0,.bool false] 36 (0,0)):=YX.o;obtain ⟨x0,x1,x2,x3,x4,x5,x6,x7,x8,x9,g0,g1,g2,g3,g4,g5,g6,g7,g8,g9⟩:=zcv YX';clear YX';have O4:=zaa (zuc X w.heap.size (.slice iW ndW.length jW) (.slice iP 0 jP) (.slice iS zbu.length jS) (.slice iQ 0 jQ) (.slice iH (zbt 128).length jH) (.slice (some ⟨w2.heap.size,0,none⟩) 0 0) (.int .i64 0) (.int .i64 0) (.slice (some ⟨w2.heap.size+1,0,none⟩) 0 0) (.bool false));have S4:=zaa (Soft.outside O4.o YX.o rfl);have SS:=zaa ((Soft.of_below BX.o).trans S4.o);have B3:=zaa (zab (zab BV.o B2.o BV.o.size) BX.o (by have q:=zV.o;have q1:=z2.o;omega));have B4:=zaa (B3.o.trans (O4.o.below (B:=w.heap.size) (Nat.le_refl _) B3.o.size))
 have F4:Hid (RdFs (yaby X w.heap.size (.slice iW ndW.length jW) (.slice iP 0 jP) (.slice iS zbu.length jS) (.slice iQ 0 jQ) (.slice iH (zbt 128).length jH) (.slice (some ⟨w2.heap.size,0,none⟩) 0 0) (.int .i64 0) (.int .i64 0) (.slice (some ⟨w2.heap.size+1,0,none⟩) 0 0) (.bool false)) (.agg #[.slice iW ndW.length jW,.slice iP 0 jP,.slice iS zbu.length jS,.slice iQ 0 jQ,.slice iH (zbt 128).length jH,.slice (some ⟨w2.heap.size,0,none⟩) 0 0,.int .i64 0,.int .i64 0,.slice (some ⟨w2.heap.size+1,0,none⟩) 0 0,.bool false]) ndW zbu (zbt 128) [] 0 0 [] false) :=
  ⟨iW,jW,iP,jP,iS,jS,iQ,jQ,iH,jH,_,_,_,_,rfl,D2.o.soft SS.o NDL.1 NDL.2,RdI.soft R2.o SS.o (by rw[NHL];decide),⟨rfl,_,_,rfl,⟨Nat.le_refl _,fun e=>by cases e⟩,fun h=>absurd h (by simp)⟩,⟨rfl,_,_,rfl,⟨Nat.le_refl _,fun e=>by cases e⟩,fun h=>absurd h (by simp)⟩⟩
 clear O4 S4 SS B3 BX YX D2 R2 Y2;subst hX;go_wp2;refine bodyPost_ret (v:=.agg #[.slice iW ndW.length jW,.slice iP 0 jP,.slice iS zbu.length jS,.slice iQ 0 jQ,.slice iH (zbt 128).length jH,.slice (some ⟨w2.heap.size,0,none⟩) 0 0,.int .i64 0,.int .i64 0,.slice (some ⟨w2.heap.size+1,0,none⟩) 0 0,.bool false]) (by simp[results,Tryz.results41,go_sem,x0,x1,x2,x3,x4,x5,x6,x7,x8,x9]) rfl ?_;exact ⟨_,rfl,F4.o,B4.o⟩
theorem zlw (w:World) (hT:TS w) (hE:ED w):Calls Tryz.prog 15 #[] w fun e w'=>∃ v',e=.returned v'∧RowF w' w.heap.size w'.heap.size v' ndW [] zbu [] (zbt 128) [] 0 0 [] false∧Below w.heap.size w w':=by
 have LD:=zaa (fun w1 (hb:Below w.heap.size w w1)=>zcy w1 (hT.below hb) (hE.below hb));clear hT hE
 obtain ⟨V,hV⟩:∃ V,V=(w.alloc (.cells #[.slice none 0 0,.slice none 0 0,.slice none 0 0,.slice none 0 0,.slice none 0 0,.slice none 0 0,.int .i64 0,.int .i64 0,.slice none 0 0,.bool false] 36)):=⟨_,rfl⟩
 have zV:w.heap.size+1≤V.heap.size:=by rw[hV];simp <;> omega
 have B_V:Hid (Below w.heap.size w V):=by rw[hV];exact ((Below.refl _ _).alloc (by simp <;> omega) _)
 have X0_V:Hid (V.heap[w.heap.size]?=some (.cells #[.slice none 0 0,.slice none 0 0,.slice none 0 0,.slice none 0 0,.slice none 0 0,.slice none 0 0,.int .i64 0,.int .i64 0,.slice none 0 0,.bool false] 36 (0,0))):=by rw[hV];exact (zae rfl)
 go_enter Tryz.func15,Tryz.ntmps15;go_upto_region 1 with fail;rw[← hV];clear hV;go_wp2_with fail;refine (LD.o V B_V.o).mono ?_;rintro e w1 ⟨v',rfl,hr,hb⟩;obtain ⟨iW,jW,iP,jP,iS,jS,iQ,jQ,rfl,-,-⟩:=hr.rd.form;clear LD;have zw1:V.heap.size≤w1.heap.size:=hb.size;have B_w1:=zaa (zab B_V.o hb B_V.o.size);have X0_w1:=zaa (zaf X0_V.o hb (zap X0_V.o));clear B_V hb X0_V;have QD_w1:=zaa (RowDev.wide hr (lo':=w.heap.size+1) (hi':=w1.heap.size) (by omega) (Nat.le_refl _));clear hr;go_wp2_with fail;refine (zhp w1).mono ?_;rintro e w2 ⟨v',rfl,hr,hb⟩;obtain ⟨-,iH,jH,rfl,-⟩:=hr.rd;have zw2:w1.heap.size≤w2.heap.size:=hb.size;have B_w2:=zaa (zab B_w1.o hb B_w1.o.size);have X0_w2:=zaa (zaf X0_w1.o hb (zap X0_w1.o));have QD_w2:=zaa (QD_w1.o.below hb (by omega));clear B_w1 hb X0_w1 QD_w1;have QH_w2:=zaa (Row.wide hr (lo':=w1.heap.size) (hi':=w2.heap.size) (Nat.le_refl _) (Nat.le_refl _));clear hr;obtain ⟨d0,d1,d2,d3,d4,d5,d6,d7,d8,d9,g0,g1,g2,g3,g4,g5,g6,g7,g8,g9⟩:=zcv X0_w2.o
 obtain ⟨w3,hw3⟩:∃ w3,w3=((((((((((w2.setCell ⟨w.heap.size,0,none⟩ (.slice iW ndW.length jW)).setCell ⟨w.heap.size,1,none⟩ (.slice iP 0 jP)).setCell ⟨w.heap.size,2,none⟩ (.slice iS zbu.length jS)).setCell ⟨w.heap.size,3,none⟩ (.slice iQ 0 jQ)).setCell ⟨w.heap.size,4,none⟩ (.slice iH (zbt 128).length jH)).setCell ⟨w.heap.size,5,none⟩ (.slice none 0 0)).setCell ⟨w.heap.size,6,none⟩ (.int .i64 0)).setCell ⟨w.heap.size,7,none⟩ (.int .i64 0)).setCell ⟨w.heap.size,8,none⟩ (.slice none 0 0)).setCell ⟨w.heap.size,9,none⟩ (.bool false)):=⟨_,rfl⟩
 have Ow3:Outside (w.heap.size) (w.heap.size+1) w2 w3:=by
  rw[hw3]
  repeat (refine Outside.setCell ?_ (by simp only;omega) (by simp only;omega) _)
  exact Outside.refl _ _ _
 have zw3:w2.heap.size≤w3.heap.size∧w3.heap.size≤w2.heap.size:=by rw[hw3];simp[World.setCell]
 have B_w3:=zaa (B_w2.o.trans (Ow3.below (B:=w.heap.size) (by omega) B_w2.o.size))
 have X0_w3:Hid (w3.heap[w.heap.size]?=some (.cells #[.slice iW ndW.length jW,.slice iP 0 jP,.slice iS zbu.length jS,.slice iQ 0 jQ,.slice iH (zbt 128).length jH,.slice none 0 0,.int .i64 0,.int .i64 0,.slice none 0 0,.bool false] 36 (0,0))):=by rw[hw3];exact (zzw (yaaa (zzi (zxk (zwz (zyj (zzv (zyd (zyc (zzo X0_w2.o _) _) _) _) _) _) _) _) _) _)
 have QD_w3:=zaa (QD_w2.o.outside Ow3 (by omega) (by omega));have QH_w3:=zaa (QH_w2.o.outside Ow3 (by omega) (by omega));clear Ow3;go_wp2;refine bodyPost_ret (v:=.agg #[.slice iW ndW.length jW,.slice iP 0 jP,.slice iS zbu.length jS,.slice iQ 0 jQ,.slice iH (zbt 128).length jH,.slice none 0 0,.int .i64 0,.int .i64 0,.slice none 0 0,.bool false]) (by simp[results,Tryz.results15,go_sem,d0,d1,d2,d3,d4,d5,d6,d7,d8,d9]) rfl ?_;rw[← hw3];refine ⟨_,rfl,⟨_,_,_,_,_,_,_,_,_,_,_,w.heap.size,w.heap.size,w.heap.size,w.heap.size,rfl,QD_w3.o,QH_w3.o,RowW.nil _ _ _,Row.nil _ _ _ _ _,?_⟩,B_w3.o⟩;exact ⟨by omega,by omega,by omega,by omega,by omega,by omega,by omega,by omega,by omega,by omega,by omega,by omega,by omega,by omega⟩
end Go.Proofs.YtbohndgbfbfldaaGreatDoor
