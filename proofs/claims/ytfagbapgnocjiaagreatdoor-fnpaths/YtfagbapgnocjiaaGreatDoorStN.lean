/- The entries of a directory: by the model and by the program. -/
import Derived.Test.YtfagbapgnocjiaaGreatDoorZAQ
import Derived.Laws.Cover1
set_option maxRecDepth 100000
set_option maxHeartbeats 8000000
namespace Go.Proofs.YtfagbapgnocjiaaGreatDoor
open Go.RowKit
theorem zau{a w:World}(h:zB a w)(o:Obj):zB a (w.alloc o):=h.alloc h.size o
theorem yacl(a x:ByteArray):(Op.bytesLess a.toList x.toList=false/\(a.toList == x.toList)=false/\x.toList<a.toList)\/(Op.bytesLess a.toList x.toList=true/\(a.toList == x.toList)=false/\a.toList<=x.toList)\/(Op.bytesLess a.toList x.toList=false/\(a.toList == x.toList)=true/\a.toList<=x.toList):=by
 generalize a.toList=a;generalize x.toList=x;rw[bytesLess_eq]
 by_cases h:a<x
 ·refine .inr (.inl ⟨decide_eq_true h,?_,List.le_of_lt h⟩);rw[beq_eq_false_iff_ne];rintro rfl;exact List.lt_irrefl a h
 ·by_cases e:a=x
  ·subst e;exact .inr (.inr ⟨decide_eq_false h,by simp,List.le_refl _⟩)
  ·refine .inl ⟨decide_eq_false h,by rw[beq_eq_false_iff_ne];exact e,?_⟩
   exact Classical.byContradiction fun q=>e (List.le_antisymm (show a<=x from q) (show x<=a from h))
theorem zgu(v:Value)(ws:List Ino)(ps:List Den)(d:Int)(w:World)(h:RdIm w v ws ps)(hn:ps.length<=4096) :
  zC 49 #[v,.I d] w fun e w'=>∃ v',e=.returned v'/\Row w' 9 1 w.heap.size w'.heap.size v' (zbk (zaw ps d)).length (zcs (zbk (zaw ps d)))/\zB w w':=by
 obtain⟨vW,vP,rfl,h1,h2⟩:=h;obtain⟨aW,cW,rfl,_,_⟩:=h1.shape;obtain⟨aP,cP,rfl,_,hcP⟩:=h2.shape;have HZ:=zaa hcP;clear h1 h2 hcP
 obtain⟨W,hW⟩:=zE (w.alloc (.cells #[.slice aW ws.length cW,.slice aP ps.length cP] 26))
 have CA:Hid (∀ w',zB W w'->w'.cell? ⟨w.heap.size,1,none⟩=some (.slice aP ps.length cP)):=fun w' hb=>by
  have:w'.heap[w.heap.size]?=some (.cells #[.slice aW ws.length cW,.slice aP ps.length cP] 26 (0,0)):=(hb.block _ (by rw[hW];simp)).trans (by rw[hW];exact zai rfl);exact(zad this).2.1
 have BW:Hid (zB w W):=by rw[hW];exact zR.alloc zL _
 have hz:w.heap.size<=W.heap.size:=BW.o.size
 have START:Hid (SnI W (W.alloc (.cells #[] 9)) (.slice (some ⟨W.heap.size,0,none⟩) 0 0) []):=⟨World.ownsRow_lit W #[] 0 zL (by simp[maxLen]) (by simp),zR.alloc zL _⟩
 go_enter Tryz.func49,Tryz.ntmps49;go_wp2;rw[hW]at START;simp only[World.size_alloc]at START
 go_loopw [5,6] (fun vL i wr=>∃ k:Nat,k<=ps.length/\i=.I k/\∃ ss:List ByteArray,vL≠.N/\ss.length<=k/\Hid (SnI W wr vL ss/\Ord ss/\ss.Perm (zaw (ps.take k) d))) (fun _ i _=>ps.length-(intOf i).toNat)
 case atStart=>exact⟨0,by omega,rfl,[],(fun e=>by cases e),Nat.le_refl _,by rw[hW];exact START.o,List.Pairwise.nil,List.Perm.refl _⟩
 case round =>
  obtain⟨k,hk,rfl,ss,hv,hl,I⟩:=hrel;clear START hW;have x1:=CA.o wr I.o.1.b;have hzr:W.heap.size<=wr.heap.size:=I.o.1.z
  have k0:(0:Int)<=(k:Int):=by omega
  obtain⟨bL,cL,rfl,hcL,hbL,hbL'⟩:=I.o.1.form hv;clear hv
  by_cases hlt:k<ps.length
  ·obtain⟨b,o,rfl,hbl,hcell⟩:=HZ.o (by omega);obtain⟨a0,a1,a2⟩:=hcell k hlt;have JW:=zaa (zab BW.o I.o.1.b hz);have d0:=(JW.o.cell (p:=⟨b,o+k*3,none⟩) hbl).trans a0;have d1:=(JW.o.cell (p:=⟨b,o+k*3+1,none⟩) hbl).trans a1;have d2:=(JW.o.cell (p:=⟨b,o+k*3+2,none⟩) hbl).trans a2
   have k1:(k:Int)<(ps.length:Int):=by omega
   have NS:=zaa (yabj (d:=d) hlt);clear a0 a1 a2 hcell;generalize ps[k]=x at *
   obtain⟨wx,hwx⟩:=zE (wr.alloc (.cells #[.I x.dir,.string x.name,.I x.child] 52))
   have BX:Hid (zB wr wx):=by rw[hwx];exact zR.alloc zL _
   have IX:=zaa (I.o.1.below BX.o)
   have hzx:wr.heap.size<wx.heap.size:=by rw[hwx];simp
   have CX:Hid (∀ w',zB wx w'->w'.cell? ⟨wr.heap.size,1,none⟩=some (.string x.name)):=fun w' hb=>by
    have:w'.heap[wr.heap.size]?=some (.cells #[.I x.dir,.string x.name,.I x.child] 52 (0,0)):=(hb.block _ hzx).trans (by rw[hwx];exact zai rfl);exact(zaz this).2.1
   by_cases c1:x.child<0
   ·have q1:decide (x.child<0)=true:=decide_eq_true c1
    have E:Hid (zaw (ps.take (k+1)) d=zaw (ps.take k) d):=by unfold Hid;rw[NS.o,if_neg (fun h=>h.1 c1)]
    go_wp2;rw[<- hwx]
    go_roundw
    case rel=>exact⟨k+1,by omega,by go_num,ss,(fun e=>by cases e),by omega,IX.o,I.o.2.1,by rw[E.o];exact I.o.2.2⟩
    case measure=>simp[intOf];omega
   have q1:decide (x.child<0)=false:=decide_eq_false c1
   by_cases c2:x.dir=d
   case neg =>
    have q2:(x.dir != d)=true:=by rw[bne_iff_ne];exact c2
    have E:Hid (zaw (ps.take (k+1)) d=zaw (ps.take k) d):=by unfold Hid;rw[NS.o,if_neg (fun h=>c2 h.2)]
    clear c1 c2;go_wp2;rw[<- hwx]
    go_roundw
    case rel=>exact⟨k+1,by omega,by go_num,ss,(fun e=>by cases e),by omega,IX.o,I.o.2.1,by rw[E.o];exact I.o.2.2⟩
    case measure=>simp[intOf];omega
   have q2:(x.dir != d)=false:=by rw[c2];simp
   have E:Hid (zaw (ps.take (k+1)) d=zaw (ps.take k) d++[x.name]):=by unfold Hid;rw[NS.o,if_pos ⟨c1,c2⟩]
   clear c1 c2 NS;go_wp2;rw[<- hwx];clear x1 d0 d1 d2 q1 q2;have OR:=zaa I.o.2;clear I;generalize x.name=nm at *;clear BX JW;generalize wr.heap.size=X at *
   go_loopw [8] (fun i wq=>∃ j:Nat,j<=ss.length/\i=.I j/\Hid (zB wx wq/\∀ i (h:i<ss.length),j<=i->nm.toList<ss[i].toList)) (fun i _=>(intOf i).toNat)
   case atStart=>exact⟨ss.length,Nat.le_refl _,rfl,zR,fun i h1 h2=>absurd h1 (by omega)⟩
   case round =>
    obtain⟨j,hj,rfl,J⟩:=hrel;have JI:=zaa (IX.o.below J.o.1);have hzy:wx.heap.size<=wr.heap.size:=J.o.1.size;have y1:=CX.o wr J.o.1
    rcases Nat.eq_zero_or_pos j with rfl | hjp
    ·have g0:decide (((0:Nat):Int)>0)=false:=rfl;go_wp2_with fail
     go_quiet (fail)
     go_wp2_with fail
     obtain⟨wy,hwy⟩:=zE (wr.drewN nq)
     rw[<- hwy]
     have BY:Hid (zB wx wy):=by rw[hwy];exact zgq J.o.1 _
     have OI:Hid (Ord (ss.take 0++[nm]++ss.drop 0)):=yail hj OR.o.1 J.o.2 (fun i h1 h2=>absurd h2 (by omega))
     have OP:Hid ((ss.take 0++[nm]++ss.drop 0).Perm (zaw (ps.take (k+1)) d)):=by unfold Hid;rw[E.o];exact(zyw ss nm 0).trans (List.Perm.append_right _ OR.o.2)
     have OL:Hid ((ss.take 0++[nm]++ss.drop 0).length<=k+1):=by unfold Hid;simp<;>omega
     have ON:Hid (0<(ss.take 0++[nm]++ss.drop 0).length):=by unfold Hid;simp<;>omega
     have SY:=zaa (IX.o.below BY.o)
     have tl:Hid (0=(ss.take 0).length):=by unfold Hid;rw[List.length_take];omega
     have dl:Hid (ss.length-0=(ss.drop 0).length):=by unfold Hid;rw[List.length_drop]
     have TK:Hid (∀ w',zB wy w'->Rd w' 1 (.slice (some ⟨bL,0,none⟩) 0 cL) 0 (zcs (ss.take 0))):=fun w' hb=>zlf (SY.o.below hb).rd hj
     have DR0:Hid (∀ w',zB wy w'->Rd w' 1 (.slice (some ⟨bL,0+0,none⟩) (ss.length-0) (cL-0)) (ss.length-0) (zcs (ss.drop 0))):=fun w' hb=>zsk (SY.o.below hb).rd hj
     have DR1:Hid (∀ w',cL=0->Rd w' 1 (.slice (some ⟨bL,0,none⟩) 0 0) 0 (zcs (ss.drop 0))):=fun w' e=>zyz (by omega)
     have KC:Hid (∀ w',zB wy w'->w'.cell? ⟨X,1,none⟩=some (.string nm)):=fun w' hb=>CX.o w' (zab BY.o hb BY.o.size)
     have z1:=KC.o wy zR
     have A1:Hid (SnI wy (wy.alloc (.cells #[] 9)) (.slice (some ⟨wy.heap.size,0,none⟩) 0 0) []):=⟨World.ownsRow_lit wy #[] 0 zL (by simp[maxLen]) (by simp),zR.alloc zL _⟩
     have A2:=zaa (A1.o.below (zR.alloc zL (.cells #[.string nm] 9)))
     have A3:Hid (SnI wy ((wy.alloc (.cells #[.string nm] 9)).alloc (.cells #[] 9)) (.slice (some ⟨wy.heap.size+1,0,none⟩) 0 0) []):=by
      have:=World.ownsRow_lit (e:=9) (size:=1) (base:=wy.heap.size) (wy.alloc (.cells #[.string nm] 9)) #[] 0 (by simp) (by simp[maxLen]) (by simp);rw[World.size_alloc]at this;exact⟨this,zau (zau zR _) _⟩
     have N2:Hid (Rd ((wy.alloc (.cells #[] 9)).alloc (.cells #[.string nm] 9)) 1 (.slice (some ⟨wy.heap.size+1,0,none⟩) 1 1) 1 (zcs [nm])):=by
      have:=zfw (wy.alloc (.cells #[] 9)) nm;rw[World.size_alloc]at this;exact this
     have N3:Hid (Rd ((wy.alloc (.cells #[.string nm] 9)).alloc (.cells #[] 9)) 1 (.slice (some ⟨wy.heap.size,0,none⟩) 1 1) 1 (zcs [nm])):=Rd.alloc (zfw wy nm) (.cells #[] 9);clear hwy J JI;have WY:Hid (zB W wy):=SY.o.b;have hzq:W.heap.size<=wy.heap.size:=WY.o.size
     have jl:(((0:Nat):Int):Int)<=(ss.length:Int):=by omega
     have jc:(((0:Nat):Int):Int)<=(cL:Int):=by omega
     have j0:(0:Int)<=(((0:Nat):Int):Int):=by omega
     by_cases cc:cL=0
     ·subst cc
      have DR:Hid (∀ w',zB wy w'->Rd w' 1 (.slice (some ⟨bL,0,none⟩) 0 0) 0 (zcs (ss.drop 0))):=fun w' _=>DR1.o w' rfl
      have dl0:Hid (0=(ss.drop 0).length):=by unfold Hid;rw[List.length_drop];omega
      go_region_held3 (fun w'=>w'.cell? ⟨X,1,none⟩=some (.string nm)) (first | exact z1 | exact KC.o _ (by repeat (first | exact BN.o | exact BM.o | exact BO.o | exact zR | refine zau ?_ _ | refine Below.drew ?_)))
       (first
        | (refine zam rfl (.tmp 47) (.tmp 50) 28 rfl wy.heap.size 9 (.string ⟨#[]⟩) 1 16 Tryz.underlying28 zdu rfl (by decide) _ _ _ rfl A1.o.l _ 0 _ rfl (TK.o _ (by repeat (first | exact BN.o | exact BM.o | exact BO.o | exact zR | refine zau ?_ _ | refine Below.drew ?_))) (zbb _) (by simp[maxLen]<;>omega) (by simp<;>omega) A1.o.z ?_;intro vN wN hownN hgrN;have G:=zaa ((A1.o.below (by repeat (first | exact zR | refine Below.drew ?_))).grow (ss.take 0) tl.o hownN hgrN);have BN:=zaa G.o.b;have G1:=zaa (G.o.below (zR.alloc zL (.cells #[.string nm] 9)));have N1:=zaa (zfw wN nm);clear hownN hgrN)
        | (refine zam rfl (.tmp 47) (.tmp 50) 28 rfl wy.heap.size 9 (.string ⟨#[]⟩) 1 16 Tryz.underlying28 zdu rfl (by decide) _ _ _ rfl A2.o.l _ 0 _ rfl (TK.o _ (by repeat (first | exact BN.o | exact BM.o | exact BO.o | exact zR | refine zau ?_ _ | refine Below.drew ?_))) (zbb _) (by simp[maxLen]<;>omega) (by simp<;>omega) A2.o.z ?_;intro vN wN hownN hgrN;have G:=zaa ((A2.o.below (by repeat (first | exact zR | refine Below.drew ?_))).grow (ss.take 0) tl.o hownN hgrN);have BN:=zaa G.o.b;have G1:=zaa G.o;have N1:=zaa (Rd.same N2.o hgrN.size (fun b hb he=>hgrN.block b hb (fun e=>by have h1:wy.heap.size+1=b:=Option.some.inj he;have h2:b=wy.heap.size:=Option.some.inj e;omega)));clear hownN hgrN)
        | (refine zam rfl (.tmp 47) (.tmp 50) 28 rfl wy.heap.size 9 (.string ⟨#[]⟩) 1 16 Tryz.underlying28 zdu rfl (by decide) _ _ _ rfl A3.o.l _ 0 _ rfl (TK.o _ (by repeat (first | exact BN.o | exact BM.o | exact BO.o | exact zR | refine zau ?_ _ | refine Below.drew ?_))) (zbb _) (by simp[maxLen]<;>omega) (by simp<;>omega) A3.o.z ?_;intro vN wN hownN hgrN;have G:=zaa ((A3.o.below (by repeat (first | exact zR | refine Below.drew ?_))).grow (ss.take 0) tl.o hownN hgrN);have BN:=zaa G.o.b;have G1:=zaa G.o;have N1:=zaa (Rd.same N3.o hgrN.size (fun b hb he=>hgrN.block b hb (fun e=>by have h1:wy.heap.size=b:=Option.some.inj he;have h2:b=wy.heap.size+1:=Option.some.inj e;omega)));clear hownN hgrN)
        | (refine zam rfl (.tmp 51) (.tmp 54) 28 rfl wy.heap.size 9 (.string ⟨#[]⟩) 1 16 Tryz.underlying28 zdu rfl (by decide) _ _ _ rfl G1.o.l _ 1 _ rfl N1.o (zbb _) (by simp[maxLen]<;>omega) (by simp<;>omega) G1.o.z ?_;intro vM wM hownM hgrM;have G5:=zaa ((G1.o.below (by repeat (first | exact zR | refine Below.drew ?_))).grow [nm] rfl hownM hgrM);have BM:=zaa G5.o.b;clear hownM hgrM)
        | (refine zam rfl (.tmp 55) (.tmp 58) 28 rfl wy.heap.size 9 (.string ⟨#[]⟩) 1 16 Tryz.underlying28 zdu rfl (by decide) _ _ _ rfl G5.o.l _ 0 _ rfl (DR.o _ (zab G5.o.b (by repeat (first | exact zR | refine Below.drew ?_)) G5.o.z)) (zbb _) (by simp[maxLen]<;>omega) (by simp<;>omega) G5.o.z ?_;intro vO wO hownO hgrO;have G6:=zaa ((G5.o.below (by repeat (first | exact zR | refine Below.drew ?_))).grow (ss.drop 0) dl0.o hownO hgrO);have BO:=zaa G6.o.b;clear hownO hgrO))
      all_goals
       go_wp2
       go_roundw
       case rel=>exact⟨k+1,by omega,by go_num,ss.take 0++[nm]++ss.drop 0,(by have:=G6.o.some_ (by simp<;>omega);exact this),OL.o,⟨(zac G6.o.l).wide hzq zL |>.1,zab WY.o G6.o.b WY.o.size⟩,OI.o,OP.o⟩
       case measure=>simp[intOf];omega
     ·have DR:Hid (∀ w',zB wy w'->Rd w' 1 (.slice (some ⟨bL,0,none⟩) (ss.length-0) (cL-0)) (ss.length-0) (zcs (ss.drop 0))):=fun w' hb=>by have:=DR0.o w' hb;rw[Nat.zero_add]at this;exact this
      go_region_held3 (fun w'=>w'.cell? ⟨X,1,none⟩=some (.string nm)) (first | exact z1 | exact KC.o _ (by repeat (first | exact BN.o | exact BM.o | exact BO.o | exact zR | refine zau ?_ _ | refine Below.drew ?_)))
       (first
        | (refine zam rfl (.tmp 47) (.tmp 50) 28 rfl wy.heap.size 9 (.string ⟨#[]⟩) 1 16 Tryz.underlying28 zdu rfl (by decide) _ _ _ rfl A1.o.l _ 0 _ rfl (TK.o _ (by repeat (first | exact BN.o | exact BM.o | exact BO.o | exact zR | refine zau ?_ _ | refine Below.drew ?_))) (zbb _) (by simp[maxLen]<;>omega) (by simp<;>omega) A1.o.z ?_;intro vN wN hownN hgrN;have G:=zaa ((A1.o.below (by repeat (first | exact zR | refine Below.drew ?_))).grow (ss.take 0) tl.o hownN hgrN);have BN:=zaa G.o.b;have G1:=zaa (G.o.below (zR.alloc zL (.cells #[.string nm] 9)));have N1:=zaa (zfw wN nm);clear hownN hgrN)
        | (refine zam rfl (.tmp 47) (.tmp 50) 28 rfl wy.heap.size 9 (.string ⟨#[]⟩) 1 16 Tryz.underlying28 zdu rfl (by decide) _ _ _ rfl A2.o.l _ 0 _ rfl (TK.o _ (by repeat (first | exact BN.o | exact BM.o | exact BO.o | exact zR | refine zau ?_ _ | refine Below.drew ?_))) (zbb _) (by simp[maxLen]<;>omega) (by simp<;>omega) A2.o.z ?_;intro vN wN hownN hgrN;have G:=zaa ((A2.o.below (by repeat (first | exact zR | refine Below.drew ?_))).grow (ss.take 0) tl.o hownN hgrN);have BN:=zaa G.o.b;have G1:=zaa G.o;have N1:=zaa (Rd.same N2.o hgrN.size (fun b hb he=>hgrN.block b hb (fun e=>by have h1:wy.heap.size+1=b:=Option.some.inj he;have h2:b=wy.heap.size:=Option.some.inj e;omega)));clear hownN hgrN)
        | (refine zam rfl (.tmp 47) (.tmp 50) 28 rfl wy.heap.size 9 (.string ⟨#[]⟩) 1 16 Tryz.underlying28 zdu rfl (by decide) _ _ _ rfl A3.o.l _ 0 _ rfl (TK.o _ (by repeat (first | exact BN.o | exact BM.o | exact BO.o | exact zR | refine zau ?_ _ | refine Below.drew ?_))) (zbb _) (by simp[maxLen]<;>omega) (by simp<;>omega) A3.o.z ?_;intro vN wN hownN hgrN;have G:=zaa ((A3.o.below (by repeat (first | exact zR | refine Below.drew ?_))).grow (ss.take 0) tl.o hownN hgrN);have BN:=zaa G.o.b;have G1:=zaa G.o;have N1:=zaa (Rd.same N3.o hgrN.size (fun b hb he=>hgrN.block b hb (fun e=>by have h1:wy.heap.size=b:=Option.some.inj he;have h2:b=wy.heap.size+1:=Option.some.inj e;omega)));clear hownN hgrN)
        | (refine zam rfl (.tmp 51) (.tmp 54) 28 rfl wy.heap.size 9 (.string ⟨#[]⟩) 1 16 Tryz.underlying28 zdu rfl (by decide) _ _ _ rfl G1.o.l _ 1 _ rfl N1.o (zbb _) (by simp[maxLen]<;>omega) (by simp<;>omega) G1.o.z ?_;intro vM wM hownM hgrM;have G5:=zaa ((G1.o.below (by repeat (first | exact zR | refine Below.drew ?_))).grow [nm] rfl hownM hgrM);have BM:=zaa G5.o.b;clear hownM hgrM)
        | (refine zam rfl (.tmp 55) (.tmp 58) 28 rfl wy.heap.size 9 (.string ⟨#[]⟩) 1 16 Tryz.underlying28 zdu rfl (by decide) _ _ _ rfl G5.o.l _ (ss.length-0) _ rfl (DR.o _ (zab G5.o.b (by repeat (first | exact zR | refine Below.drew ?_)) G5.o.z)) (zbb _) (by simp[maxLen]<;>omega) (by simp<;>omega) G5.o.z ?_;intro vO wO hownO hgrO;have G6:=zaa ((G5.o.below (by repeat (first | exact zR | refine Below.drew ?_))).grow (ss.drop 0) dl.o hownO hgrO);have BO:=zaa G6.o.b;clear hownO hgrO))
      all_goals
       go_wp2
       go_roundw
       case rel=>exact⟨k+1,by omega,by go_num,ss.take 0++[nm]++ss.drop 0,(by have:=G6.o.some_ (by simp<;>omega);exact this),OL.o,⟨(zac G6.o.l).wide hzq zL |>.1,zab WY.o G6.o.b WY.o.size⟩,OI.o,OP.o⟩
       case measure=>simp[intOf];omega
    obtain⟨m,rfl⟩:∃ m,j=m+1:=⟨j-1,by omega⟩
    obtain⟨aT,cT,eT,_,hcS⟩:=JI.o.rd.shape
    cases eT
    obtain⟨b',o',e',_,hcT⟩:=hcS (by omega)
    cases e'
    clear hcS;have t1:=hcT m (by omega);rw[Nat.zero_add]at t1
    have m0:(0:Int)<=(m:Int):=by omega
    have m1:(m:Int)<(ss.length:Int):=by omega
    have JN:Hid (nm.toList<ss[m].toList->∀ i (h:i<ss.length),m<=i->nm.toList<ss[i].toList):=fun q i h1 h2=>by
     by_cases e:i=m
     ·subst e;exact q
     ·exact J.o.2 i h1 (by omega)
    have TC:=yacl ss[m] nm;clear hcT;have g0:decide (((m+1:Nat):Int)>0)=true:=decide_eq_true (by omega)
    have g1:IntKind.i64.wrap (m:Int)=(m:Int):=by rw[IntKind.wrap_i64];omega
    have SM:Hid (∀ (q:ss[m].toList<=nm.toList) i (h:i<ss.length),i+1=m+1->ss[i].toList<=nm.toList):=fun q i h1 h2=>by
     obtain rfl:i=m:=by omega
     exact q
    generalize ss[m]=y at *
    rcases TC with ⟨t2,t3,t4⟩ | TC
    ·go_wp2_with fail
     go_quiet (fail)
     go_wp2
     go_roundw
     case rel=>exact⟨m,by omega,by go_num,zgq J.o.1 _,JN.o t4⟩
     case measure=>simp[intOf]
    rcases TC with ⟨t2,t3,t4⟩ | ⟨t2,t3,t4⟩
    all_goals
     go_wp2_with fail
     go_quiet (fail)
     go_wp2_with fail
     obtain⟨wy,hwy⟩:=zE (wr.drewN nq)
     rw[<- hwy]
     have BY:Hid (zB wx wy):=by rw[hwy];exact zgq J.o.1 _
     have OI:Hid (Ord (ss.take (m+1)++[nm]++ss.drop (m+1))):=yail hj OR.o.1 J.o.2 (SM.o t4)
     have OP:Hid ((ss.take (m+1)++[nm]++ss.drop (m+1)).Perm (zaw (ps.take (k+1)) d)):=by unfold Hid;rw[E.o];exact(zyw ss nm (m+1)).trans (List.Perm.append_right _ OR.o.2)
     have OL:Hid ((ss.take (m+1)++[nm]++ss.drop (m+1)).length<=k+1):=by unfold Hid;simp<;>omega
     have ON:Hid (0<(ss.take (m+1)++[nm]++ss.drop (m+1)).length):=by unfold Hid;simp<;>omega
     have SY:=zaa (IX.o.below BY.o)
     have tl:Hid ((m+1)=(ss.take (m+1)).length):=by unfold Hid;rw[List.length_take];omega
     have dl:Hid (ss.length-(m+1)=(ss.drop (m+1)).length):=by unfold Hid;rw[List.length_drop]
     have TK:Hid (∀ w',zB wy w'->Rd w' 1 (.slice (some ⟨bL,0,none⟩) (m+1) cL) (m+1) (zcs (ss.take (m+1)))):=fun w' hb=>zlf (SY.o.below hb).rd hj
     have DR0:Hid (∀ w',zB wy w'->Rd w' 1 (.slice (some ⟨bL,0+(m+1),none⟩) (ss.length-(m+1)) (cL-(m+1))) (ss.length-(m+1)) (zcs (ss.drop (m+1)))):=fun w' hb=>zsk (SY.o.below hb).rd hj
     have DR1:Hid (∀ w',cL=(m+1)->Rd w' 1 (.slice (some ⟨bL,0,none⟩) 0 0) 0 (zcs (ss.drop (m+1)))):=fun w' e=>zyz (by omega)
     have KC:Hid (∀ w',zB wy w'->w'.cell? ⟨X,1,none⟩=some (.string nm)):=fun w' hb=>CX.o w' (zab BY.o hb BY.o.size)
     have z1:=KC.o wy zR
     have A1:Hid (SnI wy (wy.alloc (.cells #[] 9)) (.slice (some ⟨wy.heap.size,0,none⟩) 0 0) []):=⟨World.ownsRow_lit wy #[] 0 zL (by simp[maxLen]) (by simp),zR.alloc zL _⟩
     have A2:=zaa (A1.o.below (zR.alloc zL (.cells #[.string nm] 9)))
     have A3:Hid (SnI wy ((wy.alloc (.cells #[.string nm] 9)).alloc (.cells #[] 9)) (.slice (some ⟨wy.heap.size+1,0,none⟩) 0 0) []):=by
      have:=World.ownsRow_lit (e:=9) (size:=1) (base:=wy.heap.size) (wy.alloc (.cells #[.string nm] 9)) #[] 0 (by simp) (by simp[maxLen]) (by simp);rw[World.size_alloc]at this;exact⟨this,zau (zau zR _) _⟩
     have N2:Hid (Rd ((wy.alloc (.cells #[] 9)).alloc (.cells #[.string nm] 9)) 1 (.slice (some ⟨wy.heap.size+1,0,none⟩) 1 1) 1 (zcs [nm])):=by
      have:=zfw (wy.alloc (.cells #[] 9)) nm;rw[World.size_alloc]at this;exact this
     have N3:Hid (Rd ((wy.alloc (.cells #[.string nm] 9)).alloc (.cells #[] 9)) 1 (.slice (some ⟨wy.heap.size,0,none⟩) 1 1) 1 (zcs [nm])):=Rd.alloc (zfw wy nm) (.cells #[] 9);clear hwy J JI;have WY:Hid (zB W wy):=SY.o.b;have hzq:W.heap.size<=wy.heap.size:=WY.o.size
     have jl:((m:Int)+1:Int)<=(ss.length:Int):=by omega
     have jc:((m:Int)+1:Int)<=(cL:Int):=by omega
     have j0:(0:Int)<=((m:Int)+1:Int):=by omega
     by_cases cc:cL=(m+1)
     ·subst cc
      have DR:Hid (∀ w',zB wy w'->Rd w' 1 (.slice (some ⟨bL,0,none⟩) 0 0) 0 (zcs (ss.drop (m+1)))):=fun w' _=>DR1.o w' rfl
      have dl0:Hid (0=(ss.drop (m+1)).length):=by unfold Hid;rw[List.length_drop];omega
      go_region_held3 (fun w'=>w'.cell? ⟨X,1,none⟩=some (.string nm)) (first | exact z1 | exact KC.o _ (by repeat (first | exact BN.o | exact BM.o | exact BO.o | exact zR | refine zau ?_ _ | refine Below.drew ?_)))
       (first
        | (refine zam rfl (.tmp 47) (.tmp 50) 28 rfl wy.heap.size 9 (.string ⟨#[]⟩) 1 16 Tryz.underlying28 zdu rfl (by decide) _ _ _ rfl A1.o.l _ (m+1) _ rfl (TK.o _ (by repeat (first | exact BN.o | exact BM.o | exact BO.o | exact zR | refine zau ?_ _ | refine Below.drew ?_))) (zbb _) (by simp[maxLen]<;>omega) (by simp<;>omega) A1.o.z ?_;intro vN wN hownN hgrN;have G:=zaa ((A1.o.below (by repeat (first | exact zR | refine Below.drew ?_))).grow (ss.take (m+1)) tl.o hownN hgrN);have BN:=zaa G.o.b;have G1:=zaa (G.o.below (zR.alloc zL (.cells #[.string nm] 9)));have N1:=zaa (zfw wN nm);clear hownN hgrN)
        | (refine zam rfl (.tmp 47) (.tmp 50) 28 rfl wy.heap.size 9 (.string ⟨#[]⟩) 1 16 Tryz.underlying28 zdu rfl (by decide) _ _ _ rfl A2.o.l _ (m+1) _ rfl (TK.o _ (by repeat (first | exact BN.o | exact BM.o | exact BO.o | exact zR | refine zau ?_ _ | refine Below.drew ?_))) (zbb _) (by simp[maxLen]<;>omega) (by simp<;>omega) A2.o.z ?_;intro vN wN hownN hgrN;have G:=zaa ((A2.o.below (by repeat (first | exact zR | refine Below.drew ?_))).grow (ss.take (m+1)) tl.o hownN hgrN);have BN:=zaa G.o.b;have G1:=zaa G.o;have N1:=zaa (Rd.same N2.o hgrN.size (fun b hb he=>hgrN.block b hb (fun e=>by have h1:wy.heap.size+1=b:=Option.some.inj he;have h2:b=wy.heap.size:=Option.some.inj e;omega)));clear hownN hgrN)
        | (refine zam rfl (.tmp 47) (.tmp 50) 28 rfl wy.heap.size 9 (.string ⟨#[]⟩) 1 16 Tryz.underlying28 zdu rfl (by decide) _ _ _ rfl A3.o.l _ (m+1) _ rfl (TK.o _ (by repeat (first | exact BN.o | exact BM.o | exact BO.o | exact zR | refine zau ?_ _ | refine Below.drew ?_))) (zbb _) (by simp[maxLen]<;>omega) (by simp<;>omega) A3.o.z ?_;intro vN wN hownN hgrN;have G:=zaa ((A3.o.below (by repeat (first | exact zR | refine Below.drew ?_))).grow (ss.take (m+1)) tl.o hownN hgrN);have BN:=zaa G.o.b;have G1:=zaa G.o;have N1:=zaa (Rd.same N3.o hgrN.size (fun b hb he=>hgrN.block b hb (fun e=>by have h1:wy.heap.size=b:=Option.some.inj he;have h2:b=wy.heap.size+1:=Option.some.inj e;omega)));clear hownN hgrN)
        | (refine zam rfl (.tmp 51) (.tmp 54) 28 rfl wy.heap.size 9 (.string ⟨#[]⟩) 1 16 Tryz.underlying28 zdu rfl (by decide) _ _ _ rfl G1.o.l _ 1 _ rfl N1.o (zbb _) (by simp[maxLen]<;>omega) (by simp<;>omega) G1.o.z ?_;intro vM wM hownM hgrM;have G5:=zaa ((G1.o.below (by repeat (first | exact zR | refine Below.drew ?_))).grow [nm] rfl hownM hgrM);have BM:=zaa G5.o.b;clear hownM hgrM)
        | (refine zam rfl (.tmp 55) (.tmp 58) 28 rfl wy.heap.size 9 (.string ⟨#[]⟩) 1 16 Tryz.underlying28 zdu rfl (by decide) _ _ _ rfl G5.o.l _ 0 _ rfl (DR.o _ (zab G5.o.b (by repeat (first | exact zR | refine Below.drew ?_)) G5.o.z)) (zbb _) (by simp[maxLen]<;>omega) (by simp<;>omega) G5.o.z ?_;intro vO wO hownO hgrO;have G6:=zaa ((G5.o.below (by repeat (first | exact zR | refine Below.drew ?_))).grow (ss.drop (m+1)) dl0.o hownO hgrO);have BO:=zaa G6.o.b;clear hownO hgrO))
      all_goals
       go_wp2
       go_roundw
       case rel=>exact⟨k+1,by omega,by go_num,ss.take (m+1)++[nm]++ss.drop (m+1),(by have:=G6.o.some_ (by simp<;>omega);exact this),OL.o,⟨(zac G6.o.l).wide hzq zL |>.1,zab WY.o G6.o.b WY.o.size⟩,OI.o,OP.o⟩
       case measure=>simp[intOf];omega
     ·have DR:Hid (∀ w',zB wy w'->Rd w' 1 (.slice (some ⟨bL,(m+1),none⟩) (ss.length-(m+1)) (cL-(m+1))) (ss.length-(m+1)) (zcs (ss.drop (m+1)))):=fun w' hb=>by have:=DR0.o w' hb;rw[Nat.zero_add]at this;exact this
      go_region_held3 (fun w'=>w'.cell? ⟨X,1,none⟩=some (.string nm)) (first | exact z1 | exact KC.o _ (by repeat (first | exact BN.o | exact BM.o | exact BO.o | exact zR | refine zau ?_ _ | refine Below.drew ?_)))
       (first
        | (refine zam rfl (.tmp 47) (.tmp 50) 28 rfl wy.heap.size 9 (.string ⟨#[]⟩) 1 16 Tryz.underlying28 zdu rfl (by decide) _ _ _ rfl A1.o.l _ (m+1) _ rfl (TK.o _ (by repeat (first | exact BN.o | exact BM.o | exact BO.o | exact zR | refine zau ?_ _ | refine Below.drew ?_))) (zbb _) (by simp[maxLen]<;>omega) (by simp<;>omega) A1.o.z ?_;intro vN wN hownN hgrN;have G:=zaa ((A1.o.below (by repeat (first | exact zR | refine Below.drew ?_))).grow (ss.take (m+1)) tl.o hownN hgrN);have BN:=zaa G.o.b;have G1:=zaa (G.o.below (zR.alloc zL (.cells #[.string nm] 9)));have N1:=zaa (zfw wN nm);clear hownN hgrN)
        | (refine zam rfl (.tmp 47) (.tmp 50) 28 rfl wy.heap.size 9 (.string ⟨#[]⟩) 1 16 Tryz.underlying28 zdu rfl (by decide) _ _ _ rfl A2.o.l _ (m+1) _ rfl (TK.o _ (by repeat (first | exact BN.o | exact BM.o | exact BO.o | exact zR | refine zau ?_ _ | refine Below.drew ?_))) (zbb _) (by simp[maxLen]<;>omega) (by simp<;>omega) A2.o.z ?_;intro vN wN hownN hgrN;have G:=zaa ((A2.o.below (by repeat (first | exact zR | refine Below.drew ?_))).grow (ss.take (m+1)) tl.o hownN hgrN);have BN:=zaa G.o.b;have G1:=zaa G.o;have N1:=zaa (Rd.same N2.o hgrN.size (fun b hb he=>hgrN.block b hb (fun e=>by have h1:wy.heap.size+1=b:=Option.some.inj he;have h2:b=wy.heap.size:=Option.some.inj e;omega)));clear hownN hgrN)
        | (refine zam rfl (.tmp 47) (.tmp 50) 28 rfl wy.heap.size 9 (.string ⟨#[]⟩) 1 16 Tryz.underlying28 zdu rfl (by decide) _ _ _ rfl A3.o.l _ (m+1) _ rfl (TK.o _ (by repeat (first | exact BN.o | exact BM.o | exact BO.o | exact zR | refine zau ?_ _ | refine Below.drew ?_))) (zbb _) (by simp[maxLen]<;>omega) (by simp<;>omega) A3.o.z ?_;intro vN wN hownN hgrN;have G:=zaa ((A3.o.below (by repeat (first | exact zR | refine Below.drew ?_))).grow (ss.take (m+1)) tl.o hownN hgrN);have BN:=zaa G.o.b;have G1:=zaa G.o;have N1:=zaa (Rd.same N3.o hgrN.size (fun b hb he=>hgrN.block b hb (fun e=>by have h1:wy.heap.size=b:=Option.some.inj he;have h2:b=wy.heap.size+1:=Option.some.inj e;omega)));clear hownN hgrN)
        | (refine zam rfl (.tmp 51) (.tmp 54) 28 rfl wy.heap.size 9 (.string ⟨#[]⟩) 1 16 Tryz.underlying28 zdu rfl (by decide) _ _ _ rfl G1.o.l _ 1 _ rfl N1.o (zbb _) (by simp[maxLen]<;>omega) (by simp<;>omega) G1.o.z ?_;intro vM wM hownM hgrM;have G5:=zaa ((G1.o.below (by repeat (first | exact zR | refine Below.drew ?_))).grow [nm] rfl hownM hgrM);have BM:=zaa G5.o.b;clear hownM hgrM)
        | (refine zam rfl (.tmp 55) (.tmp 58) 28 rfl wy.heap.size 9 (.string ⟨#[]⟩) 1 16 Tryz.underlying28 zdu rfl (by decide) _ _ _ rfl G5.o.l _ (ss.length-(m+1)) _ rfl (DR.o _ (zab G5.o.b (by repeat (first | exact zR | refine Below.drew ?_)) G5.o.z)) (zbb _) (by simp[maxLen]<;>omega) (by simp<;>omega) G5.o.z ?_;intro vO wO hownO hgrO;have G6:=zaa ((G5.o.below (by repeat (first | exact zR | refine Below.drew ?_))).grow (ss.drop (m+1)) dl.o hownO hgrO);have BO:=zaa G6.o.b;clear hownO hgrO))
      all_goals
       go_wp2
       go_roundw
       case rel=>exact⟨k+1,by omega,by go_num,ss.take (m+1)++[nm]++ss.drop (m+1),(by have:=G6.o.some_ (by simp<;>omega);exact this),OL.o,⟨(zac G6.o.l).wide hzq zL |>.1,zab WY.o G6.o.b WY.o.size⟩,OI.o,OP.o⟩
       case measure=>simp[intOf];omega
  ·obtain rfl:k=ps.length:=by omega
   have E:Hid (ss=zbk (zaw ps d)):=by
    have:=I.o.2.2;rw[List.take_length]at this;exact zpo I.o.2.1 this
   have F:=zaa I.o.1;clear I
   have k1:¬ ((ps.length:Nat):Int)<((ps.length:Nat):Int):=by omega
   go_wp2;go_ret;refine⟨_,rfl,?_,zab BW.o F.o.b hz⟩;rw[<- E.o];exact(zac F.o.l).wide hz zL
def eoC(ws:List Ino)(ps:List Den)(d:Int):Int:=if zbo ws ps=true then(if 0<=d/\d<=15 then(if zag ws d=2 then 0 else 10)else 4)else 1
def eoL(ws:List Ino)(ps:List Den)(d:Int):List ByteArray:=if eoC ws ps d=0 then zbk (zaw ps d) else[]
theorem zzf{ws:List Ino}{ps:List Den}(h:zbo ws ps=true):okDs ps=true:=by
 unfold zbo at h;simp only[Bool.and_eq_true]at h;exact yadv h.2.2.2.2.1
def zqt(ts:List Den)(d:Int):List ByteArray:=(ts.filter fun x=>x.dir == d).map Den.name
theorem yagi{ts:List Den}{d:Int}{k:Nat}(h:k<ts.length):zqt (ts.take (k+1)) d=if ts[k].dir=d then zqt (ts.take k) d++[ts[k].name]else zqt (ts.take k) d:=by
 unfold zqt;rw[List.take_succ_eq_append_getElem h,List.filter_append,List.map_append]
 by_cases c:ts[k].dir=d
 ·rw[if_pos c];simp[c]
 ·rw[if_neg c];simp[c]
theorem yaal(ts:List Den)(d:Int):(zqt ts d).length<=ts.length:=by unfold zqt;rw[List.length_map];exact List.length_filter_le _ _
theorem zpn{ps:List Den}(h:okDs ps=true)(d:Int):zqt (zan ps) d=zaw ps d:=by
 unfold zqt zan zaw;rw[List.filter_filter]
 congr 1
 apply List.filter_congr;intro x hx;obtain⟨i,hi,rfl⟩:=List.getElem_of_mem hx;unfold okDs at h;have ho:=of_decide_eq_true h i hi;have hf:=zmn ho
 have hc:ps[i].child<0↔ps[i].child=-1:=by
  unfold Den.okB at ho;rw[Bool.or_eq_true]at ho
  rcases ho with ho | ho
  ·have:=hf.1 ho;omega
  ·simp only[Bool.and_eq_true,decide_eq_true_eq]at ho;omega
 by_cases a:ps[i].freeB=true
 ·rw[a];have:=hf.1 a;rw[decide_eq_false (fun q=>q.1 (by omega))];simp
 ·have b:¬ ps[i].child=-1:=fun q=>a (hf.2 q)
  rw[Bool.not_eq_true]at a;rw[a]
  by_cases c:ps[i].dir=d
  ·rw[decide_eq_true ⟨fun q=>b (hc.1 q),c⟩,c];simp
  ·rw[decide_eq_false (fun q=>c q.2)];simp[c]
theorem zmx(w:World):Row (w.alloc (.cells #[] 9)) 9 1 w.heap.size (w.alloc (.cells #[] 9)).heap.size (.slice (some ⟨w.heap.size,0,none⟩) 0 0) 0 [] :=
 zac (World.ownsRow_lit w #[] 0 zL (by simp[maxLen]) (by simp))
end Go.Proofs.YtfagbapgnocjiaaGreatDoor
