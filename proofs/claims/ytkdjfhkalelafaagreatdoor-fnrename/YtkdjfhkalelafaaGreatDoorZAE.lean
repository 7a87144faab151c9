/- Several texts laid together: PiF, PiH, PiI, PiJ. -/
import Derived.Test.YtkdjfhkalelafaaGreatDoorZAD
import Derived.Test.YtkdjfhkalelafaaGreatDoorZAC
import Derived.Deep.RegionLaw
namespace Go.Proofs.YtkdjfhkalelafaaGreatDoor
open Go.RowKit
def FD (w:World):Prop:=∃ t fr,w.heap[0]? = some (.cells #[.int .i64 0,.string ⟨#[]⟩,.int .i64 (-1)] t fr)
theorem FD.lt {w:World} (h:FD w):0 < w.heap.size:=by
 obtain ⟨t,fr,h⟩:=h
 exact (Array.getElem?_eq_some_iff.1 h).1
theorem FD.below {w w':World} (h:FD w) (hb:Below w.heap.size w w'):FD w':=by
 have hl:=h.lt
 obtain ⟨t,fr,h⟩:=h
 exact ⟨t,fr,(hb.block _ hl).trans h⟩
theorem FD.cells {w:World} (h:FD w):w.cell? ⟨0,0,none⟩ = some (.int .i64 0) ∧ w.cell? ⟨0,1,none⟩ = some (.string ⟨#[]⟩) ∧ w.cell? ⟨0,2,none⟩ = some (.int .i64 (-1)):=by
 obtain ⟨t,fr,h⟩:=h
 simp [World.cell?,h]
def zko (a:Int) (s:ByteArray) (c a':Int) (s':ByteArray) (c':Int):Bool:=(a == a') && ((s.toList == s'.toList) && (c == c'))
set_option maxRecDepth 100000 in
set_option maxHeartbeats 4000000 in
@[go_sem ↓] theorem yaxw (a:Int) (s:ByteArray) (c a':Int) (s':ByteArray) (c':Int) (w:World):(Op.equalIn 10000 69 (.agg #[.int .i64 a,.string s,.int .i64 c]) (.agg #[.int .i64 a',.string s',.int .i64 c'])).run Tryz.prog w = .ok (zko a s c a' s' c') w:=by
 unfold zko
 cases g0:(a == a')
 ·go_simp
 cases g1:(s.toList == s'.toList)
 ·go_simp
 cases g2:(c == c')
 ·go_simp
 ·go_simp
theorem zzc:(⟨#[]⟩:ByteArray).toList = []:=(yajn _).2 rfl
theorem zmt (x:Den):zko x.dir x.name x.child 0 ⟨#[]⟩ (-1) = x.freeB:=by
 unfold zko Den.freeB
 congr 2
 rw [zzc,Bool.eq_iff_iff,beq_iff_eq,beq_iff_eq]
 exact yajn x.name
theorem Den.okB_free {x:Den} (h:x.freeB = true):x.okB = true:=by unfold Den.okB; rw [h]; rfl
theorem Den.okB_not {x:Den} (h:x.freeB = false):x.okB = (decide (1 ≤ x.child ∧ x.child ≤ 15) && (decide (0 ≤ x.dir ∧ x.dir ≤ 15) && nmB x.name)):=by unfold Den.okB; rw [h,Bool.false_or]
theorem yadj (s:ByteArray):(zpu s == 0) = nmB s:=by
 unfold zpu
 cases h:nmB s with
 | true =>
  have:=(of_decide_eq_true h:1 ≤ s.size ∧ s.size ≤ 6 ∧ _)
  rw [if_neg (by omega),if_pos rfl]; rfl
 | false =>
  split
  ·rfl
  ·rw [if_neg (by decide)]; rfl
theorem zhp (s:ByteArray) (w:World) (hs:s.size ≤ maxLen):Calls Tryz.prog 114 #[.string s] w fun e w' => e = .returned (.bool (nmB s)) ∧ Below w.heap.size w w':=by
 have P:=zaa (yadj s)
 have LP:=zaa (fun w1 => zhd s w1 hs)
 generalize zjj s = pv at *
 generalize zpu s = pc at *
 clear hs
 go_enter Tryz.func114,Tryz.ntmps114
 go_wp2_with fail
 refine (LP.out _).mono ?_
 rintro e w1 ⟨rfl,hb1⟩
 go_wp2
 go_ret
 exact ⟨zag P.out,hb1⟩
set_option maxRecDepth 100000 in
set_option maxHeartbeats 4000000 in
theorem zll (x:Den) (w:World) (hF:FD w) (hs:x.name.size ≤ maxLen):Calls Tryz.prog 67 #[x.v] w fun e w' => e = .returned (.bool x.okB) ∧ Below w.heap.size w w':=by
 have LN:=zaa (fun w1 => zhp x.name w1 hs)
 have DF:=zmt x
 have OF:=@Den.okB_free x
 have ON:=@Den.okB_not x
 obtain ⟨d,s,c⟩:=x
 simp only at LN DF ON hs
 unfold Den.v
 simp only
 have BW:=zaa ((Below.refl w.heap.size w).alloc (Nat.le_refl _) (.cells #[.int .i64 d,.string s,.int .i64 c] 69))
 have CB:Hid (∀ w',Below (w.alloc (.cells #[.int .i64 d,.string s,.int .i64 c] 69)).heap.size (w.alloc (.cells #[.int .i64 d,.string s,.int .i64 c] 69)) w' → w'.cell? ⟨w.heap.size,0,none⟩ = some (.int .i64 d) ∧ w'.cell? ⟨w.heap.size,1,none⟩ = some (.string s) ∧ w'.cell? ⟨w.heap.size,2,none⟩ = some (.int .i64 c)):=fun w' hb => zay ((hb.block _ (by simp)).trans (zah rfl))
 obtain ⟨x0,x1,x2⟩:=CB.out _ (Below.refl _ _)
 obtain ⟨f0,f1,f2⟩:=FD.cells (hF.below BW.out)
 clear hF hs
 cases h0:(Den.mk d s c).freeB with
 | true =>
  rw [h0] at DF
  have E:=zaa (OF h0)
  clear OF ON LN CB h0
  go_enter Tryz.func67,Tryz.ntmps67
  go_wp2
  go_ret
  exact ⟨zag E.out.symm,BW.out⟩
 | false =>
  rw [h0] at DF
  have E:=zaa (ON h0)
  clear OF ON h0
  cases h1:nmB s with
  | false =>
   rw [h1] at E
   have N1:=zaa h1
   clear h1 CB
   go_enter Tryz.func67,Tryz.ntmps67
   go_wp2_with fail
   refine (LN.out _).mono ?_
   rw [N1.out]
   rintro e w1 ⟨rfl,hb1⟩
   have B1:=zaa (zab BW.out hb1 BW.out.size)
   clear hb1 x0 x1 x2 f0 f1 f2
   go_wp2
   go_ret
   exact ⟨zag (by rw [E.out,Bool.and_false,Bool.and_false]),B1.out⟩
  | true =>
   rw [h1] at E
   have N1:=zaa h1
   clear h1
   by_cases h2:0 ≤ d ∧ d < 16
   case neg =>
    have E2:=zaa (show (Den.mk d s c).okB = false by rw [E.out,decide_eq_false (show ¬ (0 ≤ d ∧ d ≤ 15) by omega),Bool.false_and,Bool.and_false])
    have H2:=zaa h2
    clear h2 E
    go_enter Tryz.func67,Tryz.ntmps67
    go_wp2_with fail
    refine (LN.out _).mono ?_
    rw [N1.out]
    rintro e w1 ⟨rfl,hb1⟩
    have B1:=zaa (zab BW.out hb1 BW.out.size)
    clear x0 x1 x2 f0 f1 f2
    obtain ⟨x0,x1,x2⟩:=CB.out _ hb1
    clear hb1 CB
    go_wp2_with fail
    refine (zcf _ _ _ H2.out).mono ?_
    rintro e w' ⟨rfl,hw'⟩
    subst w'
    go_wp2
    go_ret
    exact ⟨zag E2.out.symm,B1.out⟩
   by_cases h3:0 ≤ c ∧ c < 16
   case neg =>
    have E2:=zaa (show (Den.mk d s c).okB = false by rw [E.out,decide_eq_false (show ¬ (1 ≤ c ∧ c ≤ 15) by omega),Bool.false_and])
    have H2:=zaa h2
    have H3:=zaa h3
    clear h2 h3 E
    go_enter Tryz.func67,Tryz.ntmps67
    go_wp2_with fail
    refine (LN.out _).mono ?_
    rw [N1.out]
    rintro e w1 ⟨rfl,hb1⟩
    have B1:=zaa (zab BW.out hb1 BW.out.size)
    clear x0 x1 x2 f0 f1 f2
    obtain ⟨x0,x1,x2⟩:=CB.out _ hb1
    clear hb1 CB
    go_wp2_with fail
    refine (zba _ _ _ H2.out).mono ?_
    rintro e w' ⟨rfl,hw'⟩
    subst w'
    go_wp2_with fail
    refine (zcf _ _ _ H3.out).mono ?_
    rintro e w' ⟨rfl,hw'⟩
    subst w'
    go_wp2
    go_ret
    exact ⟨zag E2.out.symm,B1.out⟩
   have E2:=zaa (show (Den.mk d s c).okB = (c != 0) by
    rw [E.out,decide_eq_true (show 0 ≤ d ∧ d ≤ 15 by omega)]
    by_cases h:c = 0
    ·rw [h]; rfl
    ·rw [decide_eq_true (show 1 ≤ c ∧ c ≤ 15 by omega),eq_comm]; simpa using h)
   have H2:=zaa h2
   have H3:=zaa h3
   clear h2 h3 E
   go_enter Tryz.func67,Tryz.ntmps67
   go_wp2_with fail
   refine (LN.out _).mono ?_
   rw [N1.out]
   rintro e w1 ⟨rfl,hb1⟩
   have B1:=zaa (zab BW.out hb1 BW.out.size)
   clear x0 x1 x2 f0 f1 f2
   obtain ⟨x0,x1,x2⟩:=CB.out _ hb1
   clear hb1 CB
   go_wp2_with fail
   refine (zba _ _ _ H2.out).mono ?_
   rintro e w' ⟨rfl,hw'⟩
   subst w'
   go_wp2_with fail
   refine (zba _ _ _ H3.out).mono ?_
   rintro e w' ⟨rfl,hw'⟩
   subst w'
   go_wp2
   go_ret
   exact ⟨zag E2.out.symm,B1.out⟩
theorem yanl (b:Nat) (w:World):(Instr.sliceAt 131 (.pointer (some ⟨b,0,none⟩)) none none none).run Tryz.prog w = .ok (.slice (some ⟨b,0,none⟩) 3 3) w:=by
 have al:Tryz.prog.arrayLen 131 = 3:=by kernel_rfl
 rw [run_sliceAt_array_all w 131 ⟨b,0,none⟩ (by kernel_rfl),al]
 have sz:(sizeOf (Tryz.prog.elem 131)).run Tryz.prog w = .ok 1 w:=by kernel_rfl
 rw [sz]
 simp [Result.andThen,slicedAt,Addr.add]
theorem yany {w:World} {b:Nat} {t:TypeId} {x y z:Int} (h:w.heap[b]? = some (.cells #[.int .i64 x,.int .i64 y,.int .i64 z] t (0,0))):RdI w (.slice (some ⟨b,0,none⟩) 3 3) [x,y,z]:=by
 refine ⟨by rw [zii,Nat.mul_one],some ⟨b,0,none⟩,3,rfl,⟨Nat.le_refl _,fun e => by cases e⟩,fun _ => ⟨b,0,rfl,(Array.getElem?_eq_some_iff.1 h).1,fun j hj => ?_⟩⟩
 rw [Nat.zero_add]
 exact (zao (xs:=[.int .i64 x,.int .i64 y,.int .i64 z]) h j).1
theorem yahp {s:ByteArray} (h:s.size = 0):pk s s.size = 0:=by
 rw [h]; rfl
theorem yapk {x:Den} (h:x.okB = true):zjj x.name = ((pk x.name x.name.size:Nat):Int):=by
 cases hn:nmB x.name with
 | true => exact (zrf hn).1
 | false =>
  have hf:x.freeB = true:=by
   unfold Den.okB at h
   rw [hn,Bool.and_false,Bool.and_false,Bool.or_false] at h
   exact h
  unfold Den.freeB at hf
  simp only [Bool.and_eq_true,beq_iff_eq] at hf
  rw [yahp hf.2.1]
  unfold zjj
  rw [hn]
  rfl
theorem yams {x:Den} (h:x.okB = true):-1 ≤ x.child ∧ x.child ≤ 15:=by
 unfold Den.okB Den.freeB at h
 simp only [Bool.or_eq_true,Bool.and_eq_true,beq_iff_eq,decide_eq_true_eq] at h
 omega
theorem yaxi (k:Int) (x:Den):ufL (240 + 3 * k) [x.dir,((pk x.name x.name.size:Nat):Int),x.child + 1] 3 = enL k x:=by
 simp [ufL,enL,List.range_succ]
set_option maxRecDepth 100000 in
set_option maxHeartbeats 4000000 in
theorem zhy (k:Int) (x:Den) (w:World) (hF:FD w) (hs:x.name.size ≤ maxLen) :
  Calls Tryz.prog 29 #[.int .i64 k,x.v] w fun e w' => ∃ v',e = .returned (.tuple #[v',.int .i64 (duC k x)]) ∧ Row w' 83 2 w.heap.size w'.heap.size v' (duL k x).length (ses (duL k x)) ∧ Below w.heap.size w w':=by
 have LF:=zaa (fun w1 (h:FD w1) => zll x w1 h hs)
 have LP:=zaa (fun w1 => zhd x.name w1 hs)
 have PV:=@yapk x
 have KC:=@yams x
 have UE:=zaa (yaxi k x)
 have DC:=yalt k x
 have BW:=zaa ((Below.refl w.heap.size w).alloc (Nat.le_refl _) (.cells #[.int .i64 x.dir,.string x.name,.int .i64 x.child] 69))
 have CB:Hid (∀ w',Below (w.alloc (.cells #[.int .i64 x.dir,.string x.name,.int .i64 x.child] 69)).heap.size (w.alloc (.cells #[.int .i64 x.dir,.string x.name,.int .i64 x.child] 69)) w' → w'.cell? ⟨w.heap.size,0,none⟩ = some (.int .i64 x.dir) ∧ w'.cell? ⟨w.heap.size,1,none⟩ = some (.string x.name) ∧ w'.cell? ⟨w.heap.size,2,none⟩ = some (.int .i64 x.child)):=fun w' hb => zay ((hb.block _ (by simp)).trans (zah rfl))
 have F:Hid (FD (w.alloc (.cells #[.int .i64 x.dir,.string x.name,.int .i64 x.child] 69))):=hF.below BW.out
 have hz:w.heap.size < (w.alloc (.cells #[.int .i64 x.dir,.string x.name,.int .i64 x.child] 69)).heap.size:=by simp
 obtain ⟨W,hW⟩:∃ W,W = w.alloc (.cells #[.int .i64 x.dir,.string x.name,.int .i64 x.child] 69):=⟨_,rfl⟩
 rw [← hW] at BW CB F hz
 rw [show x.v = .agg #[.int .i64 x.dir,.string x.name,.int .i64 x.child] from rfl]
 clear hF hs
 rcases DC with ⟨c1,e1,e2⟩ | ⟨c1,c2,e1,e2⟩ | ⟨c1,c2,e1,e2⟩
 ·rw [e1,e2]
  obtain ⟨k1,k2⟩:=zyk (i:=k) (f:=0) (by omega)
  have K1:=zaa k1
  have K2:=zaa k2
  clear e1 e2 c1 k1 k2 PV KC
  go_enter Tryz.func29,Tryz.ntmps29
  go_wp2_with fail
  rw [← hW]
  clear hW
  refine (zfy _ _ _).mono ?_
  rw [K2.out]
  rintro e w' ⟨rfl,hw'⟩
  subst w'
  go_wp2
  go_ret2
  exact ⟨_,rfl,Row.nil _ _ _ _ _,BW.out⟩
 ·rw [e1,e2]
  obtain ⟨k1,k2⟩:=yalg (i:=k) (f:=0) (by omega) (by omega)
  have K1:=zaa k1
  have K2:=zaa k2
  have C2:=zaa c2
  clear e1 e2 c1 c2 k1 k2 PV KC
  go_enter Tryz.func29,Tryz.ntmps29
  go_wp2_with fail
  rw [← hW]
  clear hW
  refine (zfy _ _ _).mono ?_
  rw [K1.out,K2.out]
  rintro e w' ⟨rfl,hw'⟩
  subst w'
  obtain ⟨p0,p1,p2⟩:=CB.out W (Below.refl _ _)
  go_wp2_with fail
  refine (LF.out _ F.out).mono ?_
  rw [C2.out]
  rintro e w1 ⟨rfl,hb⟩
  have B1:=zaa (zab BW.out hb (by omega))
  clear hb p0 p1 p2
  go_wp2
  go_ret2
  exact ⟨_,rfl,Row.nil _ _ _ _ _,B1.out⟩
 ·rw [e1,e2]
  obtain ⟨k1,k2⟩:=yalg (i:=k) (f:=0) (by omega) (by omega)
  have K1:=zaa k1
  have K2:=zaa k2
  have C2:=zaa c2
  have P2:=zaa (PV c2)
  obtain ⟨b0,b1⟩:=KC c2
  have RA:=zaa (show 0 ≤ 240 + 3 * k ∧ 240 + 3 * k ≤ 1000 by omega)
  clear e1 e2 c1 c2 k1 k2 PV KC
  go_enter Tryz.func29,Tryz.ntmps29
  go_wp2_with fail
  rw [← hW]
  clear hW
  refine (zfy _ _ _).mono ?_
  rw [K1.out,K2.out]
  rintro e w' ⟨rfl,hw'⟩
  subst w'
  obtain ⟨p0,p1,p2⟩:=CB.out W (Below.refl _ _)
  go_wp2_with fail
  refine (LF.out _ F.out).mono ?_
  rw [C2.out]
  rintro e w1 ⟨rfl,hb⟩
  have B1:=zaa (zab BW.out hb (by omega))
  have H1:=zaa hb
  have hz1:W.heap.size ≤ w1.heap.size:=hb.size
  clear p0 p1 p2
  obtain ⟨p0,p1,p2⟩:=CB.out w1 hb
  clear hb
  go_wp2_with fail
  refine (LP.out _).mono ?_
  rw [P2.out]
  rintro e w2 ⟨rfl,hb⟩
  have B2:=zaa (zab B1.out hb (by omega))
  have H2:=zaa (zab H1.out hb (by omega))
  have hz2:w1.heap.size ≤ w2.heap.size:=hb.size
  clear p0 p1 p2
  obtain ⟨p0,p1,p2⟩:=CB.out w2 H2.out
  generalize ((pk x.name x.name.size:Nat):Int) = pv at *
  clear hb H1 H2 B1
  have B3:=zaa (B2.out.alloc (by omega) (.cells #[.int .i64 x.dir,.int .i64 pv,.int .i64 (x.child + 1)] 131))
  have R3:=zaa (yany (w:=w2.alloc (.cells #[.int .i64 x.dir,.int .i64 pv,.int .i64 (x.child + 1)] 131)) (zah rfl))
  have s3:=yanl w2.heap.size
  go_wp2_with fail
  refine (zos _ _ [x.dir,pv,x.child + 1] _ R3.out (show (3:Nat) ≤ 64 by omega) RA.out).mono ?_
  rw [show [x.dir,pv,x.child + 1].length = 3 from rfl,UE.out]
  rintro e w5 ⟨v5,rfl,hr5,hb5⟩
  obtain ⟨-,aL,cL,hvL,-⟩:=hr5.rd
  subst hvL
  have R5:=zaa (hr5.wide (B3.out.size) (Nat.le_refl _))
  have B5:=zaa (zab B3.out hb5 B3.out.size)
  clear hr5 hb5
  go_wp2
  go_ret2
  exact ⟨_,rfl,R5.out,B5.out⟩
structure InI (W w:World) (vL:Value) (zs:List Int):Prop where
 l:w.ownsRow W.heap.size 3 1 vL zs.length (zdh zs)
 b:Below W.heap.size W w
theorem InI.z {W w:World} {vL:Value} {zs:List Int} (h:InI W w vL zs):W.heap.size ≤ w.heap.size:=h.b.size
theorem InI.below {W w w':World} {vL:Value} {zs:List Int} (h:InI W w vL zs) (hb:Below w.heap.size w w'):InI W w' vL zs :=
 ⟨((zad h.l).below hb (Nat.le_refl _)).1,zab h.b hb h.z⟩
theorem InI.grow {W w w':World} {vL v':Value} {zs:List Int} (h:InI W w vL zs) (x:Int) (ho:w'.ownsRow W.heap.size 3 1 v' (zs.length + 1) (zdh zs ++ [.int .i64 x])) (hg:w.grownBy w' vL.ownBlock):InI W w' v' (zs ++ [x]) :=
 ⟨by rw [yahl,List.length_append]; exact ho,h.b.grown hg h.z (fun q hq => (h.l.lt q hq).1)⟩
theorem zzf (x:Int):∀ u ∈ [Value.int .i64 x],u.oneCell' = true:=by
 intro u hu
 rw [List.mem_singleton.1 hu]
 rfl
def zdg (zs:List Int):List Int:=zs.filter fun z => z != 0
def zap (ws:List Ino):List Int:=ws.flatMap fun x => zdg x.map
def ztp (ws:List Ino) (k:Nat) (j:Nat):List Int:=zap (ws.take k) ++ zdg (((ws[k]?).map Ino.map).getD [] |>.take j)
theorem zvp (ws:List Ino) (k:Nat):ztp ws k 0 = zap (ws.take k):=by simp [ztp,zdg]
theorem zui {ws:List Ino} {k:Nat} (hk:k < ws.length) {j:Nat} (hj:j < 8):ztp ws k (j + 1) = if ws[k].map.getD j 0 = 0 then ztp ws k j else ztp ws k j ++ [ws[k].map.getD j 0]:=by
 have hl:j < ws[k].map.length:=hj
 have e:ws[k].map.getD j 0 = ws[k].map[j]:=by rw [List.getD_eq_getElem?_getD,List.getElem?_eq_getElem hl]; rfl
 unfold ztp zdg
 rw [List.getElem?_eq_getElem hk]
 simp only [Option.map_some,Option.getD_some]
 rw [List.take_succ_eq_append_getElem hl,List.filter_append,e]
 by_cases h:ws[k].map[j] = 0
 ·rw [if_pos h,h]; simp
 ·rw [if_neg h]; simp [h]
theorem ztz {ws:List Ino} {k:Nat} (hk:k < ws.length):ztp ws k 8 = zap (ws.take (k + 1)):=by
 unfold ztp zap
 rw [List.getElem?_eq_getElem hk,List.take_succ_eq_append_getElem hk,List.flatMap_append]
 simp [Ino.map]
theorem zuq (zs:List Int):(zdg zs).length ≤ zs.length:=List.length_filter_le _ _
theorem zic (ws:List Ino):(zap ws).length ≤ 8 * ws.length:=by
 induction ws with
 | nil => simp [zap]
 | cons x ws ih =>
  have h1:=zuq x.map
  have h2:x.map.length = 8:=rfl
  unfold zap at *
  rw [List.flatMap_cons,List.length_append,List.length_cons]
  omega
theorem yabt (ws:List Ino) (k j:Nat) (hk:k < ws.length) (hj:j ≤ 8):(ztp ws k j).length ≤ 8 * ws.length:=by
 have h1:=zic (ws.take k)
 have h2:=zuq (((ws[k]?).map Ino.map).getD [] |>.take j)
 have h3:(((ws[k]?).map Ino.map).getD [] |>.take j).length ≤ j:=by rw [List.length_take]; omega
 unfold ztp
 rw [List.length_append]
 rw [List.length_take] at h1
 omega
set_option maxRecDepth 100000 in
theorem idx8 (x:Ino) (j:Nat) (hj:j < 8) (w:World):(Instr.index 64 (.agg #[.int .i64 x.m0,.int .i64 x.m1,.int .i64 x.m2,.int .i64 x.m3,.int .i64 x.m4,.int .i64 x.m5,.int .i64 x.m6,.int .i64 x.m7]) (.int .i64 (j:Int))).run Tryz.prog w = .ok (.int .i64 (x.map.getD j 0)) w:=by
 rcases (show j = 0 ∨ j = 1 ∨ j = 2 ∨ j = 3 ∨ j = 4 ∨ j = 5 ∨ j = 6 ∨ j = 7 by omega) with rfl | rfl | rfl | rfl | rfl | rfl | rfl | rfl <;> simp [Instr.index,run_underlying Tryz.underlying64,asIntOf,Ino.map,go_sem]
set_option maxRecDepth 100000 in
set_option maxHeartbeats 4000000 in
theorem zkz (v:Value) (ws:List Ino) (w:World) (h:RdN w v ws) (hn:ws.length ≤ 4096) :
  Calls Tryz.prog 61 #[v] w fun e w' => ∃ v',e = .returned v' ∧ Row w' 3 1 w.heap.size w'.heap.size v' (zap ws).length (zdh (zap ws)) ∧ Below w.heap.size w w':=by
 obtain ⟨aW,cW,rfl,_,hcW⟩:=h.shape
 have HW:=zaa hcW
 clear h hcW
 go_enter Tryz.func61,Tryz.ntmps61
 go_wp2
 go_loopw [3,5,7,10] (fun vL _ _ i wr => ∃ k:Nat,k ≤ ws.length ∧ i = .int .i64 k ∧ Hid (InI w wr vL (zap (ws.take k))) ∧ w.heap.size ≤ wr.heap.size) (fun _ _ _ i _ => ws.length - (intOf i).toNat)
 case atStart => exact ⟨0,by omega,rfl,⟨World.ownsRow_nil _ _ _ _,Below.refl _ _⟩,Nat.le_refl _⟩
 case round =>
  obtain ⟨k,hk,rfl,I,hz⟩:=hrel
  by_cases hlt:k < ws.length
  ·obtain ⟨b,o,rfl,hbl,hcell⟩:=HW.out (by omega)
   obtain ⟨a0,a1,a2,a3,a4,a5,a6,a7,a8,a9,a10⟩:=hcell k hlt
   have d0:=(I.out.b.cell (p:=⟨b,o + k * 11,none⟩) hbl).trans a0
   have d1:=(I.out.b.cell (p:=⟨b,o + k * 11 + 1,none⟩) hbl).trans a1
   have d2:=(I.out.b.cell (p:=⟨b,o + k * 11 + 2,none⟩) hbl).trans a2
   have d3:=(I.out.b.cell (p:=⟨b,o + k * 11 + 3,none⟩) hbl).trans a3
   have d4:=(I.out.b.cell (p:=⟨b,o + k * 11 + 4,none⟩) hbl).trans a4
   have d5:=(I.out.b.cell (p:=⟨b,o + k * 11 + 5,none⟩) hbl).trans a5
   have d6:=(I.out.b.cell (p:=⟨b,o + k * 11 + 6,none⟩) hbl).trans a6
   have d7:=(I.out.b.cell (p:=⟨b,o + k * 11 + 7,none⟩) hbl).trans a7
   have d8:=(I.out.b.cell (p:=⟨b,o + k * 11 + 8,none⟩) hbl).trans a8
   have d9:=(I.out.b.cell (p:=⟨b,o + k * 11 + 9,none⟩) hbl).trans a9
   have d10:=(I.out.b.cell (p:=⟨b,o + k * 11 + 10,none⟩) hbl).trans a10
   have k0:(0:Int) ≤ (k:Int):=by omega
   have k1:(k:Int) < (ws.length:Int):=by omega
   have MZ:=zaa (zvp ws k)
   have MF:=zaa (ztz hlt)
   have MS:=zaa (fun j (hj:j < 8) => zui hlt hj)
   have ML:=zaa (fun j (hj:j ≤ 8) => yabt ws k j hlt hj)
   have HM:=zaa (fun j (hj:j < 8) => ws[k].at j hj)
   clear a0 a1 a2 a3 a4 a5 a6 a7 a8 a9 a10 hcell
   generalize ws[k] = x at *
   have START:Hid (InI w (wr.alloc (.cells x.cs.toArray 66)) u3 (ztp ws k 0)):=by
    have:=I.out.below ((Below.refl wr.heap.size wr).alloc (Nat.le_refl _) (.cells x.cs.toArray 66))
    unfold Hid
    rw [MZ.out]
    exact this
   unfold Ino.cs at START
   have hz0:=START.out.z
   clear I
   go_wp2
   go_loopw [3,7,16] (fun vL _ i wq => ∃ j:Nat,j ≤ 8 ∧ i = .int .i64 j ∧ Hid (InI w wq vL (ztp ws k j)) ∧ w.heap.size ≤ wq.heap.size) (fun _ _ i _ => 8 - (intOf i).toNat)
   case atStart => exact ⟨0,by omega,rfl,START,hz0⟩
   case round =>
    obtain ⟨j,hj,rfl,J,hzj⟩:=hrel
    clear START hz0 d0 d1 d2 d3 d4 d5 d6 d7 d8 d9 d10
    have j0:(0:Int) ≤ (j:Int):=by omega
    by_cases hlj:j < 8
    ·have j1:(j:Int) < 8:=by omega
     have ix:=idx8 x j hlj
     have MJ:=zaa (MS.out j hlj)
     have hlen:=ML.out j (by omega)
     generalize x.map.getD j 0 = z at ix MJ
     by_cases q:z = 0
     ·have q':(z != 0) = false:=by rw [q]; rfl
      have G:Hid (InI w wr u3 (ztp ws k (j + 1))):=by unfold Hid; rw [MJ.out,if_pos q]; exact J.out
      clear q J MJ
      go_wp2
      go_roundw
      case rel => exact ⟨j + 1,by omega,by go_num,G,hzj⟩
      case measure => simp [intOf]; omega
     ·have q':(z != 0) = true:=by rw [bne_iff_ne]; exact q
      have JB:Hid (InI w (wr.alloc (.cells #[.int .i64 z] 3)) u3 (ztp ws k j)):=J.out.below ((Below.refl _ _).alloc (Nat.le_refl _) _)
      have RB:=zaa (yafd wr z)
      have hzb:=JB.out.z
      have MN:Hid (ztp ws k (j + 1) = ztp ws k j ++ [z]):=by unfold Hid; rw [MJ.out,if_neg q]
      clear q J MJ
      go_wp2_with (at_builtin; refine zae _ rfl (.tmp 21) (.tmp 23) 23 rfl w.heap.size 3 (.int .i64 0) 1 8 Tryz.underlying23 zld rfl (by decide) _ _ _ rfl JB.out.l _ 1 _ rfl RB.out (zzf _) (by simp [maxLen]; omega) (by omega) (by omega) ?_)
      intro vN wN hownN hgrN
      have G:=zaa (JB.out.grow z hownN hgrN)
      rw [← MN.out] at G
      have hzN:=G.out.z
      clear hownN hgrN JB RB
      go_wp2
      go_roundw
      case rel => exact ⟨j + 1,by omega,by go_num,G,hzN⟩
      case measure => simp [intOf]; omega
    ·obtain rfl:j = 8:=by omega
     have G:Hid (InI w wr u3 (zap (ws.take (k + 1)))):=by unfold Hid; rw [← MF.out]; exact J.out
     clear J
     go_wp2
     go_roundw
     case rel => exact ⟨k + 1,by omega,by go_num,G,hzj⟩
     case measure => simp [intOf]; omega
  ·obtain rfl:k = ws.length:=by omega
   have E:=zaa (show zap (ws.take ws.length) = zap ws by rw [List.take_length])
   rw [E.out] at I
   obtain ⟨-,aL,cL,hvL,-⟩:=(zad I.out.l).rd
   subst hvL
   go_wp2
   go_ret
   exact ⟨_,rfl,zad I.out.l,I.out.b⟩
theorem yabg (w1:World) (x:Den):Rd (w1.alloc (.cells #[.int .i64 x.dir,.string x.name,.int .i64 x.child] 69)) 3 (.slice (some ⟨w1.heap.size,0,none⟩) 1 1) 1 (dens [x]):=by
 refine ⟨rfl,_,_,rfl,⟨Nat.le_refl _,fun e => by cases e⟩,fun _ => ⟨w1.heap.size,0,rfl,by simp,fun j hj => ?_⟩⟩
 obtain ⟨e0,e1,e2⟩:=zay (zah (w:=w1) (o:=.cells #[.int .i64 x.dir,.string x.name,.int .i64 x.child] 69) rfl)
 rcases (show j = 0 ∨ j = 1 ∨ j = 2 by omega) with rfl | rfl | rfl
 ·exact e0
 ·exact e1
 ·exact e2
theorem zhr (l:List Den):∀ u ∈ dens l,u.oneCell' = true:=by
 intro u hu
 simp only [dens,List.mem_flatMap] at hu
 obtain ⟨m,_,hm⟩:=hu
 simp [Den.cells] at hm
 rcases hm with rfl | rfl | rfl <;> rfl
theorem zkv (l l':List Den):dens (l ++ l') = dens l ++ dens l':=by simp [dens]
structure DnI (W w:World) (vL:Value) (ds:List Den):Prop where
 l:w.ownsRow W.heap.size 69 3 vL ds.length (dens ds)
 b:Below W.heap.size W w
theorem DnI.z {W w:World} {vL:Value} {ds:List Den} (h:DnI W w vL ds):W.heap.size ≤ w.heap.size:=h.b.size
theorem DnI.below {W w w':World} {vL:Value} {ds:List Den} (h:DnI W w vL ds) (hb:Below w.heap.size w w'):DnI W w' vL ds :=
 ⟨((zad h.l).below hb (Nat.le_refl _)).1,zab h.b hb h.z⟩
theorem DnI.grow {W w w':World} {vL v':Value} {ds:List Den} (h:DnI W w vL ds) (ms:List Den) (ho:w'.ownsRow W.heap.size 69 3 v' (ds.length + ms.length) (dens ds ++ dens ms)) (hg:w.grownBy w' vL.ownBlock):DnI W w' v' (ds ++ ms) :=
 ⟨by rw [zkv,List.length_append]; exact ho,h.b.grown hg h.z (fun q hq => (h.l.lt q hq).1)⟩
def zas (ps:List Den):List Den:=ps.filter fun x => !x.freeB
theorem yadz {ps:List Den} {k:Nat} (h:k < ps.length):zas (ps.take (k + 1)) = if ps[k].freeB = true then zas (ps.take k) else zas (ps.take k) ++ [ps[k]]:=by
 unfold zas
 rw [List.take_succ_eq_append_getElem h,List.filter_append]
 cases hf:ps[k].freeB <;> simp [hf]
theorem zwo (ps:List Den):(zas ps).length ≤ ps.length:=List.length_filter_le _ _
set_option maxRecDepth 100000 in
set_option maxHeartbeats 4000000 in
theorem zme (v:Value) (ps:List Den) (w:World) (h:RdD w v ps) (hn:ps.length ≤ 4096) (hF:FD w) :
  Calls Tryz.prog 55 #[v] w fun e w' => ∃ v',e = .returned v' ∧ Row w' 69 3 w.heap.size w'.heap.size v' (zas ps).length (dens (zas ps)) ∧ Below w.heap.size w w':=by
 obtain ⟨aP,cP,rfl,_,hcP⟩:=h.shape
 have HP:=zaa hcP
 have F:=zaa hF
 clear h hcP hF
 go_enter Tryz.func55,Tryz.ntmps55
 go_wp2
 go_loopw [3,5,8] (fun vL _ i wr => ∃ k:Nat,k ≤ ps.length ∧ i = .int .i64 k ∧ Hid (DnI w wr vL (zas (ps.take k))) ∧ w.heap.size ≤ wr.heap.size) (fun _ _ i _ => ps.length - (intOf i).toNat)
 case atStart => exact ⟨0,by omega,rfl,⟨World.ownsRow_nil _ _ _ _,Below.refl _ _⟩,Nat.le_refl _⟩
 case round =>
  obtain ⟨k,hk,rfl,I,hz⟩:=hrel
  by_cases hlt:k < ps.length
  ·obtain ⟨b,o,rfl,hbl,hcell⟩:=HP.out (by omega)
   obtain ⟨a0,a1,a2⟩:=hcell k hlt
   have d0:=(I.out.b.cell (p:=⟨b,o + k * 3,none⟩) hbl).trans a0
   have d1:=(I.out.b.cell (p:=⟨b,o + k * 3 + 1,none⟩) hbl).trans a1
   have d2:=(I.out.b.cell (p:=⟨b,o + k * 3 + 2,none⟩) hbl).trans a2
   have k0:(0:Int) ≤ (k:Int):=by omega
   have k1:(k:Int) < (ps.length:Int):=by omega
   have TS:=zaa (yadz hlt)
   have TL:=zwo (ps.take k)
   rw [List.length_take] at TL
   have DF:=zmt ps[k]
   clear a0 a1 a2 hcell
   generalize ps[k] = x at *
   have IB:Hid (DnI w (wr.alloc (.cells #[.int .i64 x.dir,.string x.name,.int .i64 x.child] 69)) u3 (zas (ps.take k))):=I.out.below ((Below.refl _ _).alloc (Nat.le_refl _) _)
   obtain ⟨f0,f1,f2⟩:=FD.cells (F.out.below IB.out.b)
   have hzb:=IB.out.z
   cases hf:x.freeB with
   | true =>
    have G:Hid (DnI w (wr.alloc (.cells #[.int .i64 x.dir,.string x.name,.int .i64 x.child] 69)) u3 (zas (ps.take (k + 1)))):=by unfold Hid; rw [TS.out,if_pos hf]; exact IB.out
    rw [hf] at DF
    clear IB I TS hf TL
    go_wp2
    go_roundw
    case rel => exact ⟨k + 1,by omega,by go_num,G,hzb⟩
    case measure => simp [intOf]; omega
   | false =>
    have IC:Hid (DnI w ((wr.alloc (.cells #[.int .i64 x.dir,.string x.name,.int .i64 x.child] 69)).alloc (.cells #[.int .i64 x.dir,.string x.name,.int .i64 x.child] 69)) u3 (zas (ps.take k))):=IB.out.below ((Below.refl _ _).alloc (Nat.le_refl _) _)
    have RC:=zaa (yabg (wr.alloc (.cells #[.int .i64 x.dir,.string x.name,.int .i64 x.child] 69)) x)
    have hzc:=IC.out.z
    have TN:Hid (zas (ps.take (k + 1)) = zas (ps.take k) ++ [x]):=by unfold Hid; rw [TS.out,if_neg (by rw [hf]; decide)]
    rw [hf] at DF
    rw [World.size_alloc] at RC
    clear IB I TS hf
    go_wp2_with (at_builtin; refine zae _ rfl (.tmp 15) (.tmp 17) 40 rfl w.heap.size 69 (.agg #[.int .i64 0,.string ⟨#[]⟩,.int .i64 0]) 3 32 Tryz.underlying40 znb rfl (by decide) _ _ _ rfl IC.out.l _ 1 _ rfl RC.out (zhr _) (by simp [maxLen]; omega) (by omega) (by omega) ?_)
    intro vN wN hownN hgrN
    have G:=zaa (IC.out.grow [x] hownN hgrN)
    rw [← TN.out] at G
    have hzN:=G.out.z
    clear hownN hgrN IC RC
    go_wp2
    go_roundw
    case rel => exact ⟨k + 1,by omega,by go_num,G,hzN⟩
    case measure => simp [intOf]; omega
  ·obtain rfl:k = ps.length:=by omega
   have E:=zaa (show zas (ps.take ps.length) = zas ps by rw [List.take_length])
   rw [E.out] at I
   obtain ⟨-,aL,cL,hvL,-⟩:=(zad I.out.l).rd
   subst hvL
   go_wp2
   go_ret
   exact ⟨_,rfl,zad I.out.l,I.out.b⟩
def zil (x:Den):Den:=⟨x.dir,x.name,-1⟩
def hasD (ps:List Den) (x:Den):Bool:=ps.any fun y => zko x.dir x.name x.child y.dir y.name y.child
def zoo (ps:List Den):Bool:=decide (∀ k (h:k < ps.length),hasD (ps.take k) ps[k] = false)
theorem yasl {ps:List Den} {x:Den} {k:Nat} (hk:k < ps.length) (h:zko x.dir x.name x.child ps[k].dir ps[k].name ps[k].child = true):hasD ps x = true:=by
 unfold hasD
 rw [List.any_eq_true]
 exact ⟨ps[k],List.getElem_mem _,h⟩
theorem yamb {ps:List Den} {x:Den} (h:∀ j (h:j < ps.length),zko x.dir x.name x.child ps[j].dir ps[j].name ps[j].child = false):hasD ps x = false:=by
 unfold hasD
 rw [List.any_eq_false]
 intro y hy
 obtain ⟨j,hj,rfl⟩:=List.getElem_of_mem hy
 rw [h j hj]
 decide
theorem yanb {ps:List Den} (h:∀ k (h:k < ps.length),hasD (ps.take k) ps[k] = false):zoo ps = true:=decide_eq_true h
theorem yahd {ps:List Den} {k:Nat} (hk:k < ps.length) (h:hasD (ps.take k) ps[k] = true):zoo ps = false:=decide_eq_false (fun x => by have:=x k hk; rw [h] at this; cases this)
theorem RdD.take {w:World} {ao:Option Addr} {c:Nat} {ps:List Den} {m:Nat} (h:RdD w (.slice ao ps.length c) ps) (hm:m ≤ ps.length):RdD w (.slice ao m c) (ps.take m):=by
 have:=Rd.take h hm
 unfold RdD
 have e:(ps.take m).length = m:=by rw [List.length_take]; omega
 have e2:dens (ps.take m) = (dens ps).take (m * 3):=by
  have hl:=yaay (ps.take m)
  have e3:dens ps = dens (ps.take m) ++ dens (ps.drop m):=by
   unfold dens
   rw [← List.flatMap_append,List.take_append_drop]
  rw [e3]
  exact (List.take_left' (by rw [hl,e])).symm
 rw [e,e2]
 exact this
theorem zgn {B:Nat} {a w:World} (h:Below B a w) (n:Nat):Below B a (w.drewN n):=by
 induction n with
 | zero => exact h
 | succ n ih => exact ⟨ih.os,ih.tape,ih.output,ih.size,ih.block⟩
set_option maxRecDepth 100000 in
set_option maxHeartbeats 4000000 in
theorem zwb (v:Value) (ps:List Den) (x:Den) (w:World) (h:RdD w v ps) (hn:ps.length ≤ 1048576) :
  Calls Tryz.prog 171 #[v,x.v] w fun e w' => ∃ r:Int,e = .returned (.int .i64 r) ∧ (decide (0 ≤ r) = hasD ps x) ∧ Below w.heap.size w w':=by
 obtain ⟨aZ,cZ,rfl,_,hcZ⟩:=h.shape
 have HZ:=zaa hcZ
 have BW:=zaa ((Below.refl w.heap.size w).alloc (Nat.le_refl _) (.cells #[.int .i64 x.dir,.string x.name,.int .i64 x.child] 69))
 have CB:Hid (∀ w',Below (w.alloc (.cells #[.int .i64 x.dir,.string x.name,.int .i64 x.child] 69)).heap.size (w.alloc (.cells #[.int .i64 x.dir,.string x.name,.int .i64 x.child] 69)) w' → w'.cell? ⟨w.heap.size,0,none⟩ = some (.int .i64 x.dir) ∧ w'.cell? ⟨w.heap.size,1,none⟩ = some (.string x.name) ∧ w'.cell? ⟨w.heap.size,2,none⟩ = some (.int .i64 x.child)):=fun w' hb => zay ((hb.block _ (by simp)).trans (zah rfl))
 have hz:w.heap.size ≤ (w.alloc (.cells #[.int .i64 x.dir,.string x.name,.int .i64 x.child] 69)).heap.size:=BW.out.size
 obtain ⟨W,hW⟩:∃ W,W = w.alloc (.cells #[.int .i64 x.dir,.string x.name,.int .i64 x.child] 69):=⟨_,rfl⟩
 rw [← hW] at BW CB hz
 rw [show x.v = .agg #[.int .i64 x.dir,.string x.name,.int .i64 x.child] from rfl]
 clear h hcZ
 go_enter Tryz.func171,Tryz.ntmps171
 go_wp2
 rw [← hW]
 clear hW
 go_loopw [5,8] (fun _ i wr => ∃ k:Nat,k ≤ ps.length ∧ i = .int .i64 k ∧ Hid (Below W.heap.size W wr ∧ ∀ j (h:j < ps.length),j < k → zko x.dir x.name x.child ps[j].dir ps[j].name ps[j].child = false)) (fun _ i _ => ps.length - (intOf i).toNat)
 case atStart => exact ⟨0,by omega,rfl,Below.refl _ _,fun j h a => absurd a (by omega)⟩
 case round =>
  obtain ⟨k,hk,rfl,H⟩:=hrel
  by_cases hlt:k < ps.length
  ·obtain ⟨b,o,rfl,hbl,hcell⟩:=HZ.out (by omega)
   obtain ⟨x0,x1,x2⟩:=CB.out wr H.out.1
   have B0:=zaa (zab BW.out H.out.1 hz)
   obtain ⟨a0,a1,a2⟩:=hcell k hlt
   have d0:=(B0.out.cell (p:=⟨b,o + k * 3,none⟩) hbl).trans a0
   have d1:=(B0.out.cell (p:=⟨b,o + k * 3 + 1,none⟩) hbl).trans a1
   have d2:=(B0.out.cell (p:=⟨b,o + k * 3 + 2,none⟩) hbl).trans a2
   have k0:(0:Int) ≤ (k:Int):=by omega
   have k1:(k:Int) < (ps.length:Int):=by omega
   clear hcell a0 a1 a2
   cases q:zko x.dir x.name x.child ps[k].dir ps[k].name ps[k].child with
   | true =>
    have E:=zaa (yasl hlt q)
    clear H
    generalize ps[k] = y at *
    go_wp2
    go_quiet (fail)
    go_wp2
    go_ret
    exact ⟨_,rfl,by rw [E.out]; exact decide_eq_true (by omega),zgn B0.out _⟩
   | false =>
    have H':Hid (∀ j (h:j < ps.length),j < k + 1 → zko x.dir x.name x.child ps[j].dir ps[j].name ps[j].child = false):=fun j h a => by
     by_cases e:j = k
     ·subst e; exact q
     ·exact H.out.2 j h (by omega)
    have H1:=zaa H.out.1
    clear H
    generalize ps[k] = y at d0 d1 d2 q
    go_wp2
    go_quiet (fail)
    go_wp2
    go_roundw
    case rel => exact ⟨k + 1,by omega,by go_num,zgn H1.out _,H'.out⟩
    case measure => simp [intOf]; omega
  ·have E:=zaa (yamb (fun j h => H.out.2 j h (by omega)))
   have B0:=zaa (zab BW.out H.out.1 hz)
   clear H
   go_wp2
   go_ret
   exact ⟨_,rfl,by rw [E.out]; rfl,B0.out⟩
set_option maxRecDepth 100000 in
set_option maxHeartbeats 4000000 in
theorem zhn (v:Value) (ps:List Den) (x:Den) (w:World) (h:RdD w v ps) (hn:ps.length ≤ 1048576) :
  Calls Tryz.prog 151 #[v,x.v] w fun e w' => e = .returned (.bool (hasD ps x)) ∧ Below w.heap.size w w':=by
 have HZ:=zaa h
 obtain ⟨aZ,cZ,rfl,_,_⟩:=h.shape
 have BW:=zaa ((Below.refl w.heap.size w).alloc (Nat.le_refl _) (.cells #[.int .i64 x.dir,.string x.name,.int .i64 x.child] 69))
 have LI:=zaa (fun w1 h => zwb (.slice aZ ps.length cZ) ps x w1 h hn)
 obtain ⟨x0,x1,x2⟩:=zay (zah (w:=w) (o:=.cells #[.int .i64 x.dir,.string x.name,.int .i64 x.child] 69) rfl)
 rw [show x.v = .agg #[.int .i64 x.dir,.string x.name,.int .i64 x.child] from rfl]
 clear h
 go_enter Tryz.func151,Tryz.ntmps151
 go_wp2_with fail
 refine (LI.out _ (Rd.below HZ.out BW.out)).mono ?_
 rintro e w1 ⟨r,rfl,hr,hb⟩
 have R:=zaa hr
 have B1:=zaa (zab BW.out hb BW.out.size)
 clear hr hb x0 x1 x2
 go_wp2
 go_ret
 exact ⟨zag R.out,B1.out⟩
set_option maxRecDepth 100000 in
set_option maxHeartbeats 4000000 in
theorem zmb (v:Value) (ps:List Den) (w:World) (h:RdD w v ps) (hn:ps.length ≤ 1048576) :
  Calls Tryz.prog 111 #[v] w fun e w' => e = .returned (.bool (zoo ps)) ∧ Below w.heap.size w w':=by
 have HR:=zaa h
 obtain ⟨aZ,cZ,rfl,hcap,hcZ⟩:=h.shape
 have HZ:=zaa hcZ
 clear h hcZ
 go_enter Tryz.func111,Tryz.ntmps111
 go_wp2
 go_loopw [3,4,7] (fun _ _ i wr => ∃ k:Nat,k ≤ ps.length ∧ i = .int .i64 k ∧ Hid (Below w.heap.size w wr ∧ ∀ j (h:j < ps.length),j < k → hasD (ps.take j) ps[j] = false)) (fun _ _ i _ => ps.length - (intOf i).toNat)
 case atStart => exact ⟨0,by omega,rfl,Below.refl _ _,fun j h a => absurd a (by omega)⟩
 case round =>
  obtain ⟨k,hk,rfl,H⟩:=hrel
  by_cases hlt:k < ps.length
  ·obtain ⟨b,o,rfl,hbl,hcell⟩:=HZ.out (by omega)
   obtain ⟨a0,a1,a2⟩:=hcell k hlt
   have d0:=(H.out.1.cell (p:=⟨b,o + k * 3,none⟩) hbl).trans a0
   have d1:=(H.out.1.cell (p:=⟨b,o + k * 3 + 1,none⟩) hbl).trans a1
   have d2:=(H.out.1.cell (p:=⟨b,o + k * 3 + 2,none⟩) hbl).trans a2
   have k0:(0:Int) ≤ (k:Int):=by omega
   have k1:(k:Int) < (ps.length:Int):=by omega
   have k2:(k:Int) ≤ (cZ:Int):=by omega
   have RT:=zaa (RdD.take HR.out hk)
   have LT:=zaa (show (ps.take k).length ≤ 1048576 by rw [List.length_take]; omega)
   have hz:w.heap.size ≤ wr.heap.size:=H.out.1.size
   have H1:=zaa H.out.1
   clear hcell a0 a1 a2
   obtain ⟨wb,hwb⟩:∃ wb:World,wb = wr.alloc (.cells #[.int .i64 ps[k].dir,.string ps[k].name,.int .i64 ps[k].child] 69):=⟨_,rfl⟩
   have B2:Hid (Below w.heap.size w wb):=by rw [hwb]; exact H1.out.alloc hz _
   have SK:Hid (∀ w',Below wb.heap.size wb w' → w'.cell? ⟨wr.heap.size,0,none⟩ = some (.int .i64 ps[k].dir) ∧ w'.cell? ⟨wr.heap.size,1,none⟩ = some (.string ps[k].name) ∧ w'.cell? ⟨wr.heap.size,2,none⟩ = some (.int .i64 ps[k].child)):=fun w' hb => zay ((hb.block _ (by rw [hwb]; simp)).trans (by rw [hwb]; exact zah rfl))
   cases q:hasD (ps.take k) ps[k] with
   | false =>
    have H':Hid (∀ j (h:j < ps.length),j < k + 1 → hasD (ps.take j) ps[j] = false):=fun j h a => by
     by_cases e:j = k
     ·subst e; exact q
     ·exact H.out.2 j h (by omega)
    have Q:=zaa q
    clear q H
    generalize ps[k] = x at d0 d1 d2 Q hwb SK
    go_wp2_with fail
    rw [← hwb]
    clear hwb
    go_region_held3 (fun w' => w'.cell? ⟨wr.heap.size,0,none⟩ = some (.int .i64 x.dir) ∧ w'.cell? ⟨wr.heap.size,1,none⟩ = some (.string x.name) ∧ w'.cell? ⟨wr.heap.size,2,none⟩ = some (.int .i64 x.child))
     (exact SK.out _ (by repeat (first | exact BF.out | exact Below.refl _ _ | refine Below.drew ?_)))
     (first
      | (go_at_call 151; refine (zhn _ (ps.take k) x _ (Rd.below RT.out (zab B2.out (by repeat (first | exact Below.refl _ _ | refine Below.drew ?_)) B2.out.size)) LT.out).mono ?_; rw [Q.out]; rintro e w1 ⟨rfl,hb1⟩; have BF:Hid (Below wb.heap.size wb w1):=(by first | exact hb1 | exact zab (by repeat (first | exact Below.refl _ _ | refine Below.drew ?_)) hb1 (Nat.le_refl _))))
    all_goals
     have B3:=zaa (zab B2.out BF.out B2.out.size)
     clear hb1 BF SK d0 d1 d2
     go_wp2
     go_roundw
     case rel => exact ⟨k + 1,by omega,by go_num,(by repeat (first | exact B3.out | refine Below.drew ?_)),H'.out⟩
     case measure => simp [intOf]; omega
   | true =>
    have E:=zaa (yahd hlt q)
    have Q:=zaa q
    clear q H
    generalize ps[k] = x at d0 d1 d2 Q hwb SK
    go_wp2_with fail
    rw [← hwb]
    clear hwb
    go_region_held3 (fun w' => w'.cell? ⟨wr.heap.size,0,none⟩ = some (.int .i64 x.dir) ∧ w'.cell? ⟨wr.heap.size,1,none⟩ = some (.string x.name) ∧ w'.cell? ⟨wr.heap.size,2,none⟩ = some (.int .i64 x.child))
     (exact SK.out _ (by repeat (first | exact BF.out | exact Below.refl _ _ | refine Below.drew ?_)))
     (first
      | (go_at_call 151; refine (zhn _ (ps.take k) x _ (Rd.below RT.out (zab B2.out (by repeat (first | exact Below.refl _ _ | refine Below.drew ?_)) B2.out.size)) LT.out).mono ?_; rw [Q.out]; rintro e w1 ⟨rfl,hb1⟩; have BF:Hid (Below wb.heap.size wb w1):=(by first | exact hb1 | exact zab (by repeat (first | exact Below.refl _ _ | refine Below.drew ?_)) hb1 (Nat.le_refl _))))
    all_goals
     have B3:=zaa (zab B2.out BF.out B2.out.size)
     clear hb1 BF SK d0 d1 d2
     go_wp2
     go_ret
     exact ⟨zag E.out.symm,(by repeat (first | exact B3.out | refine Below.drew ?_))⟩
  ·have E:=zaa (yanb (fun j h => H.out.2 j h (by omega)))
   have H1:=zaa H.out.1
   clear H
   go_wp2
   go_ret
   exact ⟨zag E.out.symm,H1.out⟩
end Go.Proofs.YtkdjfhkalelafaaGreatDoor
