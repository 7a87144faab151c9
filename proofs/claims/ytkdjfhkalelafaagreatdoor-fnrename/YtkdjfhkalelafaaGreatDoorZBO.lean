/- Several texts laid together: PcE, PcF, PcG. -/
import Derived.Test.YtkdjfhkalelafaaGreatDoorZAT
import Derived.Test.YtkdjfhkalelafaaGreatDoorZBN
namespace Go.Proofs.YtkdjfhkalelafaaGreatDoor
open Go.RowKit
def yave (d:Int) (nm:ByteArray) (x:Den):Bool:=x.dir == d && x.name.toList == nm.toList
theorem yavt {ws:List Ino} {ps:List Den} (h:zcb ws ps = true) {nm:ByteArray} (hn:1 ≤ nm.size) (d:Int) (k:Nat) (hk:k < ps.length):zbg d nm ps[k] = yave d nm ps[k]:=by
 unfold zbg yave
 rcases zfq h k hk with ⟨h1,h2⟩ | ⟨h1,_⟩
 ·have:(ps[k].name.toList == nm.toList) = false:=by
   rw [beq_eq_false_iff_ne]
   intro e
   have:=congrArg List.length e
   rw [Lib.toList_data,Lib.toList_data,← Lib.size_eq,← Lib.size_eq] at this
   omega
  rw [this]; simp
 ·rw [decide_eq_true (show 0 ≤ ps[k].child by omega),Bool.true_and]
set_option maxRecDepth 100000 in
set_option maxHeartbeats 8000000 in
theorem zqs (v vL:Value) (ws:List Ino) (ps:List Den) (ns:List ByteArray) (w:World) (h:RdIm w v ws ps) (hL:RdT w vL ns) (hi:zcb ws ps = true) (hn:ns.length ≤ 1048576) (hs:∀ k (h:k < ns.length),1 ≤ ns[k].size) :
  Calls Tryz.prog 33 #[v,vL] w fun e w' => e = .returned (.tuple #[.int .i64 (wk ws ps 0 ns).1,.int .i64 (wk ws ps 0 ns).2]) ∧ Below w.heap.size w w':=by
 have HR:=zaa h
 have LD:=zaa (fun (i:Nat) (hi16:i < 16) w1 h => zpd v ws ps (i:Int) w1 h (zat hi).1 (by omega))
 obtain ⟨vW,vP,rfl,h1,h2⟩:=h
 obtain ⟨aW,cW,rfl,_,_⟩:=h1.shape
 obtain ⟨aP,cP,rfl,_,hcP⟩:=h2.shape
 obtain ⟨aL,cL,rfl,_,hcL⟩:=hL.shape
 have L24:=zaa (zat hi).2.1
 obtain ⟨bP,oP,rfl,hblP,hcellP⟩:=hcP (by have:=L24.out; omega)
 have pl:ps.length ≤ 4096:=by have:=L24.out; omega
 have HP:=zaa hcellP
 have HN:=zaa hcL
 have HS:=zaa hs
 have PH:=zaa (fun (nm:ByteArray) (hn:1 ≤ nm.size) d k hk => yavt hi hn d k hk)
 have CR:=zaa (fun (d:Int) (nm:ByteArray) (k:Nat) (e:zax ps d nm = some k) => zeb hi e)
 generalize hres:wk ws ps 0 ns = res
 have HRES:=zaa hres
 clear hres h1 h2 hcP hcellP hcL hL hi hs
 obtain ⟨W,hW⟩:∃ W,W = w.alloc (.cells #[.slice aW ws.length cW,.slice (some ⟨bP,oP,none⟩) ps.length cP] 42):=⟨_,rfl⟩
 have CA:Hid (∀ w',Below W.heap.size W w' → w'.cell? ⟨w.heap.size,0,none⟩ = some (.slice aW ws.length cW) ∧ w'.cell? ⟨w.heap.size,1,none⟩ = some (.slice (some ⟨bP,oP,none⟩) ps.length cP)):=fun w' hb => by
  have:w'.heap[w.heap.size]? = some (.cells #[.slice aW ws.length cW,.slice (some ⟨bP,oP,none⟩) ps.length cP] 42 (0,0)):=(hb.block _ (by rw [hW]; simp)).trans (by rw [hW]; exact zah rfl)
  exact ⟨(zac this).1,(zac this).2.1⟩
 have BW:Hid (Below w.heap.size w W):=by rw [hW]; exact (Below.refl _ _).alloc (Nat.le_refl _) _
 have hzW:w.heap.size ≤ W.heap.size:=BW.out.size
 go_enter Tryz.func33,Tryz.ntmps33
 go_wp2_with fail
 go_step3
 go_wp2_with fail
 go_step3
 go_wp2_with fail
 rw [← hW]
 clear hW
 go_loopg [6,13] ns.length (fun g a i wr => ∃ (k:Nat) (z:Nat),k + g = ns.length ∧ z < 16 ∧ a = .int .i64 z ∧ i = .int .i64 k ∧ Hid (Below W.heap.size W wr ∧ res = wk ws ps z (ns.drop k)))
 case atStart => exact ⟨0,0,by omega,by omega,rfl,rfl,Below.refl _ _,HRES.out.symm⟩
 case round =>
  obtain ⟨k,z,hk,hz16,rfl,rfl,J⟩:=hrel
  obtain ⟨x0,x1⟩:=CA.out wr J.out.1
  have B:=zaa (zab BW.out J.out.1 hzW)
  have J1:=zaa J.out.1
  have k0:(0:Int) ≤ (k:Int):=by omega
  by_cases hlt:k < ns.length
  ·have k1:(k:Int) < (ns.length:Int):=by omega
   have JD:Hid (res = wk ws ps z (ns[k] :: ns.drop (k + 1))):=by unfold Hid; rw [J.out.2,List.drop_eq_getElem_cons hlt]
   obtain ⟨bL,oL,rfl,hblL,hcell⟩:=HN.out (by omega)
   have n0:=(B.out.cell (p:=⟨bL,oL + k,none⟩) hblL).trans (hcell k hlt)
   have WN:=zaa (fun (h:¬ zai ws z = 2) => zfa (ps:=ps) (n:=ns[k]) (ns:=ns.drop (k + 1)) h)
   have WO:=zaa (fun (h:zai ws z = 2) (e:zax ps z ns[k] = none) => zgs (ns:=ns.drop (k + 1)) h e)
   have WS:=zaa (fun (h:zai ws z = 2) (j:Nat) (e:zax ps z ns[k] = some j) => zfu (ns:=ns.drop (k + 1)) h e)
   have PK:=zaa (fun j hj => PH.out ns[k] (HS.out k hlt) (z:Int) j hj)
   have CR2:=zaa (fun (j:Nat) (e:zax ps z ns[k] = some j) => CR.out _ _ _ e)
   have LD2:=zaa (fun w1 h => LD.out z hz16 w1 h)
   clear J hcell HRES
   generalize zai ws (z:Int) = kk at *
   generalize ns[k] = nm at *
   by_cases q:kk = 2
   case neg =>
    have q1:(kk == 2) = false:=by rw [beq_eq_false_iff_ne]; exact q
    rw [q1] at LD2
    obtain rfl:=JD.out.trans (WN.out q)
    clear q q1 WN WO WS CR2 PK
    go_wp2_with fail
    refine (LD2.out _ (HR.out.below B.out)).mono ?_
    rintro e w1 ⟨rfl,hb1⟩
    have B1:=zaa (zab B.out hb1 B.out.size)
    clear hb1 x0 x1 n0
    go_wp2
    try rw [Exit.noGoto_ret]
    go_ret2
    exact ⟨rfl,B1.out⟩
   have q1:(kk == 2) = true:=by rw [q]; rfl
   rw [q1] at LD2
   clear q1
   have Q:=zaa q
   clear q
   go_wp2_with fail
   refine (LD2.out _ (HR.out.below B.out)).mono ?_
   rintro e w1 ⟨rfl,hb1⟩
   have B1:=zaa (zab B.out hb1 B.out.size)
   have J2:=zaa (zab J1.out hb1 J1.out.size)
   clear hb1 x0 x1 n0 LD2
   obtain ⟨x0,x1⟩:=CA.out w1 J2.out
   generalize gk = G0 at *
   have hz1:w.heap.size ≤ w1.heap.size:=B1.out.size
   clear B J1
   go_wp2_with fail
   go_loopg [6,24] ps.length (fun g2 a i wq => ∃ j:Nat,j + g2 = ps.length ∧ a = .int .i64 z ∧ i = .int .i64 j ∧ Hid (Below w1.heap.size w1 wq ∧ ∀ m (h:m < ps.length),m < j → zbg (z:Int) nm ps[m] = false))
   case atStart => exact ⟨0,by omega,rfl,rfl,Below.refl _ _,fun m h a => absurd a (by omega)⟩
   case round =>
    obtain ⟨j,hj,rfl,rfl,K⟩:=hrel
    have KW:=zaa (zab B1.out K.out.1 hz1)
    have K2:=zaa (zab J2.out K.out.1 J2.out.size)
    have j0:(0:Int) ≤ (j:Int):=by omega
    by_cases hlj:j < ps.length
    ·obtain ⟨a0,a1,a2⟩:=HP.out j hlj
     have d0:=(KW.out.cell (p:=⟨bP,oP + j * 3,none⟩) hblP).trans a0
     have d1:=(KW.out.cell (p:=⟨bP,oP + j * 3 + 1,none⟩) hblP).trans a1
     have d2:=(KW.out.cell (p:=⟨bP,oP + j * 3 + 2,none⟩) hblP).trans a2
     have j1:(j:Int) < (ps.length:Int):=by omega
     have EH:Hid (zbg (z:Int) nm ps[j] = (ps[j].dir == (z:Int) && ps[j].name.toList == nm.toList)):=PK.out j hlj
     have HY:=zaa (fun e:zbg (z:Int) nm ps[j] = true => yajb hlj K.out.2 e)
     have HX:=zaa (fun (e:zbg (z:Int) nm ps[j] = false) m (h:m < ps.length) (a:m < j + 1) => show zbg (z:Int) nm ps[m] = false by
      by_cases q:m = j
      ·subst q; exact e
      ·exact K.out.2 m h (by omega))
     have CJ:=zaa (zbh hlj)
     have K1:=zaa K.out.1
     clear a0 a1 a2 K
     generalize zbg (z:Int) nm ps[j] = hit at *
     generalize ps[j].child = y at *
     generalize ps[j].dir = yd at *
     generalize ps[j].name = yn at *
     have BX:=zaa ((Below.refl wr.heap.size wr).alloc (Nat.le_refl _) (.cells #[.int .i64 yd,.string yn,.int .i64 y] 69))
     have B5:=zaa (zab K1.out BX.out K1.out.size)
     have B6:=zaa (zab K2.out BX.out K2.out.size)
     by_cases r:yd = (z:Int)
     case neg =>
      have r1:(yd == (z:Int)) = false:=beq_eq_false_iff_ne.2 r
      have E:=zaa (HX.out (by rw [EH.out,r1]; rfl))
      clear r HX HY EH
      go_wp2
      go_roundg (ps.length - (j + 1))
      case measure => omega
      case rel => exact ⟨j + 1,by omega,rfl,by go_num,B5.out,E.out⟩
     have r1:(yd == (z:Int)) = true:=beq_iff_eq.2 r
     cases t:(yn.toList == nm.toList) with
     | false =>
      have E:=zaa (HX.out (by rw [EH.out,t]; simp))
      clear r HX HY EH
      go_wp2
      go_roundg (ps.length - (j + 1))
      case measure => omega
      case rel => exact ⟨j + 1,by omega,rfl,by go_num,B5.out,E.out⟩
     | true =>
      have E1:=HY.out (by rw [EH.out,t,r1]; rfl)
      obtain ⟨_,c1,c2⟩:=CR2.out j E1
      have W2:=zaa (JD.out.trans (WS.out Q.out j E1))
      rw [CJ.out] at c1 c2 W2
      obtain ⟨yn2,hy⟩:∃ n:Nat,y = (n:Int):=⟨y.toNat,by omega⟩
      subst hy
      have y16:yn2 < 16:=by omega
      clear r HX HY EH E1 CJ
      go_wp2
      go_roundg (ns.length - (k + 1))
      case measure => omega
      case rel => exact ⟨k + 1,yn2,by omega,y16,rfl,by go_num,B6.out,W2.out⟩
    ·obtain rfl:j = ps.length:=by omega
     have E:=zaa (JD.out.trans (WO.out Q.out (yaqc (fun m h => K.out.2 m h h))))
     obtain rfl:=E.out
     clear K E
     go_wp2
     try rw [Exit.noGoto_ret]
     go_ret2
     exact ⟨rfl,KW.out⟩
  ·obtain rfl:k = ns.length:=by omega
   have E:Hid (res = ((z:Int),0)):=by unfold Hid; rw [J.out.2,List.drop_length]; rfl
   clear HRES J
   obtain rfl:=E.out
   go_wp2
   try rw [Exit.noGoto_ret]
   go_ret2
   exact ⟨rfl,B.out⟩
def siC (ws:List Ino) (ps:List Den) (s:ByteArray):Int:=if 65536 < s.size then 2 else if zcb ws ps = true then spC s else 1
def siL (ws:List Ino) (ps:List Den) (s:ByteArray):List ByteArray:=if zcb ws ps = true then spR s else []
theorem zvq {s:ByteArray}:∀ k (h:k < (spL s).length),1 ≤ (spL s)[k].size:=by
 intro k hk
 have hm:(spL s)[k] ∈ spL s:=List.getElem_mem hk
 generalize (spL s)[k] = x at hm
 unfold spL at hm
 split at hm
 ·cases hm
 ·split at hm
  ·rename_i h
   unfold spN at h
   simp only [Bool.and_eq_true,List.all_eq_true] at h
   exact (zdc (h.2.2 x hm)).1
  ·cases hm
theorem yatj (ws:List Ino) (ps:List Den) (s:ByteArray):(¬ siC ws ps s = 0 → lkR ws ps s = (0,siC ws ps s) ∧ paR ws ps s = (0,⟨#[]⟩,siC ws ps s)) ∧ (siC ws ps s = 0 → zcb ws ps = true ∧ siL ws ps s = spL s ∧ lkR ws ps s = wk ws ps 0 (spL s) ∧ paR ws ps s = paL ws ps (spL s)):=by
 unfold siC lkR paR siL
 by_cases c1:65536 < s.size
 ·rw [if_pos c1,if_pos c1,if_pos c1]
  exact ⟨fun _ => ⟨rfl,rfl⟩,fun h => by cases h⟩
 ·rw [if_neg c1,if_neg c1,if_neg c1]
  by_cases c2:zcb ws ps = true
  ·rw [if_pos c2,if_pos c2,if_pos c2,if_pos c2]
   obtain ⟨X1,X2⟩:=zst c1
   unfold lkI paI
   cases c3:spB s with
   | false =>
    obtain ⟨e1,e2⟩:=X2 c3
    rw [e1,e2]
    exact ⟨fun _ => ⟨rfl,rfl⟩,fun h => by cases h⟩
   | true =>
    obtain ⟨e1,e2⟩:=X1 c3
    rw [e1,e2]
    exact ⟨fun h => absurd rfl h,fun _ => ⟨c2,rfl,rfl,rfl⟩⟩
  ·rw [if_neg c2,if_neg c2,if_neg c2,if_neg c2]
   exact ⟨fun _ => ⟨rfl,rfl⟩,fun h => by cases h⟩
set_option maxRecDepth 100000 in
set_option maxHeartbeats 4000000 in
theorem znc (v:Value) (ws:List Ino) (ps:List Den) (s:ByteArray) (w:World) (h:RdIm w v ws ps) (hw:ws.length ≤ 1048576) (hp:ps.length ≤ 1048576) (hT:TS w) (hE:ED w) (hF:FD w) (hr:∀ k (h:k < ws.length),ws[k].R) (hs:∀ k (h:k < ps.length),ps[k].name.size ≤ maxLen) :
  Calls Tryz.prog 32 #[v,.string s] w fun e w' => ∃ v',e = .returned (.tuple #[v',.int .i64 (siC ws ps s)]) ∧ RdT w' v' (siL ws ps s) ∧ Below w.heap.size w w':=by
 have HR:=zaa h
 have LI:=zaa (fun w1 (hb:Below w.heap.size w w1) => zdu v ws ps w1 (h.below hb) hw hp (hT.below hb) (hE.below hb) (hF.below hb) hr hs)
 have LS:=zaa (fun w1 => zkx s w1)
 have EC:=zaa (show siC ws ps s = if 65536 < s.size then 2 else if zcb ws ps = true then spC s else 1 from rfl)
 have EL:=zaa (show siL ws ps s = if zcb ws ps = true then spR s else [] from rfl)
 have XL:=zaa (fun h => yaej (s:=s) h)
 have X0:Hid (¬ 65536 < s.size → ¬ spC s = 2):=fun h => by
  obtain ⟨X1,X2⟩:=zst h
  cases c:spB s
  ·rw [(X2 c).1]; decide
  ·rw [(X1 c).1]; decide
 obtain ⟨vW,vP,rfl,h1,h2⟩:=h
 obtain ⟨aW,cW,rfl,_,_⟩:=h1.shape
 obtain ⟨aP,cP,rfl,_,_⟩:=h2.shape
 clear h1 h2 hr hs hT hE hF
 have CA:Hid (∀ w',Below (w.alloc (.cells #[.slice aW ws.length cW,.slice aP ps.length cP] 42)).heap.size (w.alloc (.cells #[.slice aW ws.length cW,.slice aP ps.length cP] 42)) w' → w'.cell? ⟨w.heap.size,0,none⟩ = some (.slice aW ws.length cW) ∧ w'.cell? ⟨w.heap.size,1,none⟩ = some (.slice aP ps.length cP)):=fun w' hb => by
  have:w'.heap[w.heap.size]? = some (.cells #[.slice aW ws.length cW,.slice aP ps.length cP] 42 (0,0)):=(hb.block _ (by simp)).trans (zah rfl)
  exact ⟨(zac this).1,(zac this).2.1⟩
 have BW:Hid (Below w.heap.size w (w.alloc (.cells #[.slice aW ws.length cW,.slice aP ps.length cP] 42))):=(Below.refl _ _).alloc (Nat.le_refl _) _
 generalize siC ws ps s = sc at *
 generalize siL ws ps s = sl at *
 by_cases c1:65536 < s.size
 ·obtain ⟨e1,e2⟩:=XL.out c1
  rw [if_pos c1] at EC
  have E2:Hid (sl = []):=by unfold Hid; rw [EL.out,e2]; split <;> rfl
  rw [e1,e2] at LS
  obtain rfl:=EC.out
  obtain rfl:=E2.out
  clear EC EL E2 c1 e1 e2
  go_enter Tryz.func32,Tryz.ntmps32
  go_wp2_with fail
  refine (LS.out _).mono ?_
  rintro e w1 ⟨v1,rfl,hr1,hb1⟩
  have B1:=zaa (zab BW.out hb1 BW.out.size)
  have R1:Hid (RdT w1 v1 []):=hr1.rd
  clear hr1 hb1
  go_wp2
  go_ret2
  exact ⟨_,rfl,R1.out,B1.out⟩
 have q2:Hid ((spC s != 2) = true):=by unfold Hid; rw [bne_iff_ne]; exact X0.out c1
 rw [if_neg c1] at EC
 clear XL X0 c1
 generalize spC s = cc at *
 generalize spR s = rr at *
 have q3:=q2.out
 cases c3:zcb ws ps with
 | false =>
  rw [c3] at EC EL LI
  obtain rfl:=EC.out
  obtain rfl:=EL.out
  clear EC EL c3
  go_enter Tryz.func32,Tryz.ntmps32
  go_wp2_with fail
  refine (LS.out _).mono ?_
  rintro e w1 ⟨v1,rfl,hr1,hb1⟩
  have B1:=zaa (zab BW.out hb1 BW.out.size)
  obtain ⟨x0,x1⟩:=CA.out _ hb1
  clear hr1 hb1
  go_wp2_with fail
  refine (LI.out _ B1.out).mono ?_
  rintro e w2 ⟨rfl,hb2⟩
  have B2:=zaa (zab B1.out hb2 B1.out.size)
  clear hb2 x0 x1
  go_wp2
  go_ret2
  exact ⟨_,rfl,yaeq _,B2.out⟩
 | true =>
  rw [c3] at EC EL LI
  obtain rfl:sc = cc:=EC.out
  obtain rfl:sl = rr:=EL.out
  clear EC EL c3
  go_enter Tryz.func32,Tryz.ntmps32
  go_wp2_with fail
  refine (LS.out _).mono ?_
  rintro e w1 ⟨v1,rfl,hr1,hb1⟩
  have B1:=zaa (zab BW.out hb1 BW.out.size)
  have R1:Hid (RdT w1 v1 sl):=hr1.rd
  obtain ⟨x0,x1⟩:=CA.out _ hb1
  clear hr1 hb1
  go_wp2_with fail
  refine (LI.out _ B1.out).mono ?_
  rintro e w2 ⟨rfl,hb2⟩
  have B2:=zaa (zab B1.out hb2 B1.out.size)
  have R2:Hid (RdT w2 v1 sl):=Rd.below R1.out hb2
  clear hb2 x0 x1
  go_wp2
  go_ret2
  exact ⟨_,rfl,R2.out,B2.out⟩
set_option maxRecDepth 100000 in
set_option maxHeartbeats 4000000 in
theorem zfw (v:Value) (ws:List Ino) (ps:List Den) (s:ByteArray) (w:World) (h:RdIm w v ws ps) (hw:ws.length ≤ 1048576) (hp:ps.length ≤ 1048576) (hT:TS w) (hE:ED w) (hF:FD w) (hr:∀ k (h:k < ws.length),ws[k].R) (hs:∀ k (h:k < ps.length),ps[k].name.size ≤ maxLen) :
  Calls Tryz.prog 11 #[v,.string s] w fun e w' => e = .returned (.tuple #[.int .i64 (lkR ws ps s).1,.int .i64 (lkR ws ps s).2]) ∧ Below w.heap.size w w':=by
 have HR:=zaa h
 have LS:=zaa (fun w1 (hb:Below w.heap.size w w1) => znc v ws ps s w1 (h.below hb) hw hp (hT.below hb) (hE.below hb) (hF.below hb) hr hs)
 have LG:=zaa (fun vL w1 h hL hi => zqs v vL ws ps (spL s) w1 h hL hi (by have:=@zss s; omega) zvq)
 obtain ⟨NO,YES⟩:=yatj ws ps s
 have NO:=zaa NO
 have YES:=zaa YES
 obtain ⟨vW,vP,rfl,h1,h2⟩:=h
 obtain ⟨aW,cW,rfl,_,_⟩:=h1.shape
 obtain ⟨aP,cP,rfl,_,_⟩:=h2.shape
 clear h1 h2 hr hs hT hE hF
 have CA:Hid (∀ w',Below (w.alloc (.cells #[.slice aW ws.length cW,.slice aP ps.length cP] 42)).heap.size (w.alloc (.cells #[.slice aW ws.length cW,.slice aP ps.length cP] 42)) w' → w'.cell? ⟨w.heap.size,0,none⟩ = some (.slice aW ws.length cW) ∧ w'.cell? ⟨w.heap.size,1,none⟩ = some (.slice aP ps.length cP)):=fun w' hb => by
  have:w'.heap[w.heap.size]? = some (.cells #[.slice aW ws.length cW,.slice aP ps.length cP] 42 (0,0)):=(hb.block _ (by simp)).trans (zah rfl)
  exact ⟨(zac this).1,(zac this).2.1⟩
 have BW:Hid (Below w.heap.size w (w.alloc (.cells #[.slice aW ws.length cW,.slice aP ps.length cP] 42))):=(Below.refl _ _).alloc (Nat.le_refl _) _
 obtain ⟨x0,x1⟩:=CA.out _ (Below.refl _ _)
 generalize siC ws ps s = sc at *
 generalize siL ws ps s = sl at *
 generalize lkR ws ps s = res at *
 generalize paR ws ps s = res2 at *
 by_cases c:sc = 0
 ·obtain ⟨c1,rfl,rfl,_⟩:=YES.out c
  have C1:=zaa c1
  subst c
  clear NO YES c1
  generalize wk ws ps 0 (spL s) = r1 at *
  go_enter Tryz.func11,Tryz.ntmps11
  go_wp2_with fail
  refine (LS.out _ BW.out).mono ?_
  rintro e w1 ⟨v1,rfl,hr1,hb1⟩
  have B1:=zaa (zab BW.out hb1 BW.out.size)
  have R1:=zaa hr1
  clear x0 x1
  obtain ⟨x0,x1⟩:=CA.out _ hb1
  clear hr1 hb1
  go_wp2_with fail
  refine (LG.out _ _ (HR.out.below B1.out) R1.out C1.out).mono ?_
  rintro e w2 ⟨rfl,hb2⟩
  have B2:=zaa (zab B1.out hb2 B1.out.size)
  clear hb2 x0 x1
  go_wp2
  go_ret2
  exact ⟨rfl,B2.out⟩
 ·obtain ⟨rfl,_⟩:=NO.out c
  have q:(sc != 0) = true:=by rw [bne_iff_ne]; exact c
  clear NO YES c
  go_enter Tryz.func11,Tryz.ntmps11
  go_wp2_with fail
  refine (LS.out _ BW.out).mono ?_
  rintro e w1 ⟨v1,rfl,hr1,hb1⟩
  have B1:=zaa (zab BW.out hb1 BW.out.size)
  clear hr1 hb1 x0 x1
  go_wp2
  go_ret2
  exact ⟨rfl,B1.out⟩
set_option maxRecDepth 100000 in
set_option maxHeartbeats 8000000 in
theorem zit (v:Value) (ws:List Ino) (ps:List Den) (s:ByteArray) (w:World) (h:RdIm w v ws ps) (hw:ws.length ≤ 1048576) (hp:ps.length ≤ 1048576) (hT:TS w) (hE:ED w) (hF:FD w) (hr:∀ k (h:k < ws.length),ws[k].R) (hs:∀ k (h:k < ps.length),ps[k].name.size ≤ maxLen) :
  Calls Tryz.prog 63 #[v,.string s] w fun e w' => e = .returned (.tuple #[.int .i64 (paR ws ps s).1,.string (paR ws ps s).2.1,.int .i64 (paR ws ps s).2.2]) ∧ Below w.heap.size w w':=by
 have HR:=zaa h
 have LS:=zaa (fun w1 (hb:Below w.heap.size w w1) => znc v ws ps s w1 (h.below hb) hw hp (hT.below hb) (hE.below hb) (hF.below hb) hr hs)
 have LG:=zaa (fun vL ns w1 h hL hi hn hs => zqs v vL ws ps ns w1 h hL hi hn hs)
 have LD:=zaa (fun (i:Nat) w1 h (hl:ws.length = 16) (hi16:i < 16) => zpd v ws ps (i:Int) w1 h hl (by omega))
 have SS:=zaa (@zvq s)
 have SL:=zaa (@zss s)
 obtain ⟨NO,YES⟩:=yatj ws ps s
 have NO:=zaa NO
 have YES:=zaa YES
 obtain ⟨vW,vP,rfl,h1,h2⟩:=h
 obtain ⟨aW,cW,rfl,_,_⟩:=h1.shape
 obtain ⟨aP,cP,rfl,_,_⟩:=h2.shape
 clear h1 h2 hr hs hT hE hF
 have CA:Hid (∀ w',Below (w.alloc (.cells #[.slice aW ws.length cW,.slice aP ps.length cP] 42)).heap.size (w.alloc (.cells #[.slice aW ws.length cW,.slice aP ps.length cP] 42)) w' → w'.cell? ⟨w.heap.size,0,none⟩ = some (.slice aW ws.length cW) ∧ w'.cell? ⟨w.heap.size,1,none⟩ = some (.slice aP ps.length cP)):=fun w' hb => by
  have:w'.heap[w.heap.size]? = some (.cells #[.slice aW ws.length cW,.slice aP ps.length cP] 42 (0,0)):=(hb.block _ (by simp)).trans (zah rfl)
  exact ⟨(zac this).1,(zac this).2.1⟩
 have BW:Hid (Below w.heap.size w (w.alloc (.cells #[.slice aW ws.length cW,.slice aP ps.length cP] 42))):=(Below.refl _ _).alloc (Nat.le_refl _) _
 obtain ⟨x0,x1⟩:=CA.out _ (Below.refl _ _)
 generalize siC ws ps s = sc at *
 generalize siL ws ps s = sl at *
 generalize lkR ws ps s = res2 at *
 generalize paR ws ps s = res at *
 by_cases c:sc = 0
 case neg =>
  obtain ⟨_,rfl⟩:=NO.out c
  have q:(sc != 0) = true:=by rw [bne_iff_ne]; exact c
  clear NO YES c
  go_enter Tryz.func63,Tryz.ntmps63
  go_wp2_with fail
  refine (LS.out _ BW.out).mono ?_
  rintro e w1 ⟨v1,rfl,hr1,hb1⟩
  have B1:=zaa (zab BW.out hb1 BW.out.size)
  clear hr1 hb1 x0 x1
  go_wp2
  go_ret3
  exact ⟨rfl,B1.out⟩
 obtain ⟨c1,rfl,_,hres⟩:=YES.out c
 have C1:=zaa c1
 have EL2:=zaa hres
 have WR:=zaa (fun ns => zjx c1 ns 0 (by omega))
 have L16:=zaa (zat c1).1
 subst c
 clear NO YES c1 hres
 generalize spL s = ns at *
 by_cases c2:ns = []
 ·subst c2
  obtain rfl:=EL2.out
  clear EL2 LG
  go_enter Tryz.func63,Tryz.ntmps63
  go_wp2_with fail
  refine (LS.out _ BW.out).mono ?_
  rintro e w1 ⟨v1,rfl,hr1,hb1⟩
  have B1:=zaa (zab BW.out hb1 BW.out.size)
  obtain ⟨aL,cL,rfl,_,_⟩:=hr1.shape
  clear hr1 hb1 x0 x1
  simp only [List.length_nil]
  go_wp2
  go_ret3
  exact ⟨rfl,B1.out⟩
 obtain ⟨xs,x,rfl⟩:=zyz c2
 rw [zid] at EL2
 clear c2
 have EP:=zaa (show paN ws ps xs x = if (wk ws ps 0 xs).2 = 0 then (if zai ws (wk ws ps 0 xs).1 = 2 then ((wk ws ps 0 xs).1,x,0) else (0,⟨#[]⟩,10)) else (0,⟨#[]⟩,(wk ws ps 0 xs).2) from rfl)
 rw [EP.out] at EL2
 clear EP
 have sl:=SL.out
 rw [List.length_append,List.length_cons,List.length_nil,Nat.zero_add] at sl
 have S1:Hid (∀ k (h:k < xs.length),1 ≤ xs[k].size):=fun k hk => by
  have:=SS.out k (by rw [List.length_append]; omega)
  rw [List.getElem_append_left hk] at this
  exact this
 have wr1:=WR.out xs
 have LW2:=zaa (fun vL w1 h hL => LG.out vL xs w1 h hL C1.out (by omega) S1.out)
 obtain ⟨z,hz⟩:∃ z:Nat,(wk ws ps 0 xs).1 = (z:Int):=⟨((wk ws ps 0 xs).1).toNat,by omega⟩
 have z16:z < 16:=by omega
 rw [hz] at EL2 LW2
 clear LG WR SL SS S1 wr1 hz
 have LD2:=zaa (fun w1 h => LD.out z w1 h L16.out z16)
 clear LD
 generalize (wk ws ps 0 xs).2 = wc at *
 go_enter Tryz.func63,Tryz.ntmps63
 go_wp2_with fail
 refine (LS.out _ BW.out).mono ?_
 rintro e w1 ⟨v1,rfl,hr1,hb1⟩
 have B1:=zaa (zab BW.out hb1 BW.out.size)
 have BA:=zaa hb1
 have hbn:(w.alloc (.cells #[.slice aW ws.length cW,.slice aP ps.length cP] 42)).heap.size ≤ w1.heap.size:=hb1.size
 clear x0 x1
 obtain ⟨x0,x1⟩:=CA.out _ hb1
 have R1:=zaa hr1
 obtain ⟨aL,cL,rfl,hcap,hcL⟩:=hr1.shape
 obtain ⟨b,o,rfl,hbl,hcell⟩:=hcL (by rw [List.length_append]; simp)
 have hx:w1.cell? ⟨b,o + xs.length,none⟩ = some (.string x):=by
  have:=hcell xs.length (by rw [List.length_append]; simp)
  simpa using this
 have RT:Hid (RdT w1 (.slice (some ⟨b,o,none⟩) xs.length cL) xs):=by
  have:=zmp R1.out (m:=xs.length) (by rw [List.length_append]; omega)
  rw [List.take_left] at this
  exact this
 rw [List.length_append,List.length_cons,List.length_nil,Nat.zero_add] at hcap
 simp only [List.length_append,List.length_cons,List.length_nil,Nat.zero_add]
 clear hr1 hb1 hcL hcell R1 LS
 generalize xs.length = n at *
 have n0:(((n + 1:Nat):Int) == 0) = false:=by rw [beq_eq_false_iff_ne]; omega
 have nw:IntKind.i64.wrap (((n + 1:Nat):Int) - 1) = (n:Int):=by
  rw [show (((n + 1:Nat):Int) - 1) = (n:Int) by omega,IntKind.wrap_i64]
  omega
 have ncap:(n:Int) ≤ (cL:Int):=by omega
 have nw2:IntKind.i64.wrap ((n:Int) + 1 - 1) = (n:Int):=by rw [IntKind.wrap_i64]; omega
 have nw3:IntKind.i64.wrap (n:Int) = (n:Int):=by rw [IntKind.wrap_i64]; omega
 have nn0:(0:Int) ≤ (n:Int):=by omega
 have nn1:(n:Int) < ((n + 1:Nat):Int):=by omega
 have nn2:(n:Int) < (n:Int) + 1:=by omega
 have SK:Hid (∀ w',Below w1.heap.size w1 w' → w'.cell? ⟨w.heap.size,0,none⟩ = some (.slice aW ws.length cW) ∧ w'.cell? ⟨w.heap.size,1,none⟩ = some (.slice aP ps.length cP)):=fun w' hb => CA.out w' (zab BA.out hb hbn)
 have HX:Hid (∀ w',Below w1.heap.size w1 w' → w'.cell? ⟨b,o + n,none⟩ = some (.string x)):=fun w' hb => (hb.cell (p:=⟨b,o + n,none⟩) hbl).trans hx
 have LW3:=zaa (fun w2 (hb:Below w1.heap.size w1 w2) => LW2.out _ w2 (HR.out.below (zab B1.out hb B1.out.size)) (Rd.below RT.out hb))
 clear LW2 RT hx
 by_cases q:wc = 0
 case neg =>
  rw [if_neg q] at EL2
  obtain rfl:=EL2.out
  have q1:(wc != 0) = true:=by rw [bne_iff_ne]; exact q
  clear EL2 q
  go_wp2_with fail
  go_region_held3 (fun w' => w'.cell? ⟨w.heap.size,0,none⟩ = some (.slice aW ws.length cW) ∧ w'.cell? ⟨w.heap.size,1,none⟩ = some (.slice aP ps.length cP))
   (exact SK.out _ (by repeat (first | exact BF.out | exact Below.refl _ _ | refine Below.drew ?_)))
   (first
    | (go_at_call 33; refine (LW3.out _ (by repeat (first | exact Below.refl _ _ | refine Below.drew ?_))).mono ?_; rintro e w2 ⟨rfl,hb2⟩; have BF:Hid (Below w1.heap.size w1 w2):=(by first | exact hb2 | exact zab (by repeat (first | exact Below.refl _ _ | refine Below.drew ?_)) hb2 (Nat.le_refl _)); clear hb2))
  all_goals
   have B3:=zaa (zab B1.out BF.out B1.out.size)
   clear SK x0 x1
   go_wp2
   go_ret3
   exact ⟨rfl,(by repeat (first | exact B3.out | refine Below.drew ?_))⟩
 rw [if_pos q] at EL2
 subst q
 by_cases r:zai ws z = 2
 case neg =>
  rw [if_neg r] at EL2
  obtain rfl:=EL2.out
  have r1:(zai ws z == 2) = false:=by rw [beq_eq_false_iff_ne]; exact r
  rw [r1] at LD2
  clear EL2 r r1
  go_wp2_with fail
  go_region_held3 (fun w' => w'.cell? ⟨w.heap.size,0,none⟩ = some (.slice aW ws.length cW) ∧ w'.cell? ⟨w.heap.size,1,none⟩ = some (.slice aP ps.length cP))
   (exact SK.out _ (by repeat (first | exact BF.out | exact Below.refl _ _ | refine Below.drew ?_)))
   (first
    | (go_at_call 33; refine (LW3.out _ (by repeat (first | exact Below.refl _ _ | refine Below.drew ?_))).mono ?_; rintro e w2 ⟨rfl,hb2⟩; have BF:Hid (Below w1.heap.size w1 w2):=(by first | exact hb2 | exact zab (by repeat (first | exact Below.refl _ _ | refine Below.drew ?_)) hb2 (Nat.le_refl _)); clear hb2))
  all_goals
   have B3:=zaa (zab B1.out BF.out B1.out.size)
   clear x0 x1
   obtain ⟨x0,x1⟩:=SK.out _ BF.out
   clear SK
   go_wp2_with fail
   refine (LD2.out _ (HR.out.below (by repeat (first | exact B3.out | refine Below.drew ?_)))).mono ?_
   rintro e w3 ⟨rfl,hb3⟩
   have B4:Hid (Below w.heap.size w w3):=zab (by repeat (first | exact B3.out | refine Below.drew ?_)) hb3 (by have:=B3.out.size; simp <;> omega)
   clear hb3 x0 x1
   go_wp2
   go_ret3
   exact ⟨rfl,B4.out⟩
 rw [if_pos r] at EL2
 obtain rfl:=EL2.out
 have r1:(zai ws z == 2) = true:=by rw [r]; rfl
 rw [r1] at LD2
 clear EL2 r r1
 go_wp2_with fail
 go_region_held3 (fun w' => w'.cell? ⟨w.heap.size,0,none⟩ = some (.slice aW ws.length cW) ∧ w'.cell? ⟨w.heap.size,1,none⟩ = some (.slice aP ps.length cP))
  (exact SK.out _ (by repeat (first | exact BF.out | exact Below.refl _ _ | refine Below.drew ?_)))
  (first
   | (go_at_call 33; refine (LW3.out _ (by repeat (first | exact Below.refl _ _ | refine Below.drew ?_))).mono ?_; rintro e w2 ⟨rfl,hb2⟩; have BF:Hid (Below w1.heap.size w1 w2):=(by first | exact hb2 | exact zab (by repeat (first | exact Below.refl _ _ | refine Below.drew ?_)) hb2 (Nat.le_refl _)); clear hb2))
 all_goals
  have B3:=zaa (zab B1.out BF.out B1.out.size)
  clear x0 x1
  obtain ⟨x0,x1⟩:=SK.out _ BF.out
  clear SK
  go_wp2_with fail
  refine (LD2.out _ (HR.out.below (by repeat (first | exact B3.out | refine Below.drew ?_)))).mono ?_
  rintro e w3 ⟨rfl,hb3⟩
  have B4:Hid (Below w.heap.size w w3):=zab (by repeat (first | exact B3.out | refine Below.drew ?_)) hb3 (by have:=B3.out.size; simp <;> omega)
  have B5:Hid (Below w1.heap.size w1 w3):=zab (by repeat (first | exact BF.out | refine Below.drew ?_)) hb3 (by have:=BF.out.size; simp <;> omega)
  have hx:=HX.out _ B5.out
  clear hb3 x0 x1
  go_wp2_with fail
  go_region_held3 (fun w' => w'.cell? ⟨b,o + n,none⟩ = some (.string x))
   (exact HX.out _ (by repeat (first | exact B5.out | refine Below.drew ?_)))
   (fail)
  all_goals
   go_wp2
   go_ret3
   exact ⟨rfl,(by repeat (first | exact B4.out | refine Below.drew ?_))⟩
end Go.Proofs.YtkdjfhkalelafaaGreatDoor
