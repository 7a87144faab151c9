/- Several texts laid together: FsA, TrB, HtA, FsC, FsD. -/
import Derived.Test.YtkdjfhkalelafaaGreatDoorZAZ
import Derived.Test.YtkdjfhkalelafaaGreatDoorZAY
import Derived.Test.YtkdjfhkalelafaaGreatDoorZAP
import Derived.Test.YtkdjfhkalelafaaGreatDoorZAS
import Derived.Test.YtkdjfhkalelafaaGreatDoorZAQ
import Derived.Test.YtkdjfhkalelafaaGreatDoorZAI
import Derived.Test.YtkdjfhkalelafaaGreatDoorZAC
import Derived.Deep.DeepCutAuto
import Derived.Deep.RegionHeld3
import Derived.Deep.RegionLaw
namespace Go.Proofs.YtkdjfhkalelafaaGreatDoor
open Go.RowKit
def zwq (s:List Int × List Se) (l:List Mi):List Int × List Se:=l.foldl (fun s m => (doE m s.1 s.2,doQ m s.2)) s
theorem zok (s:List Int × List Se) (l l':List Mi):zwq s (l ++ l') = zwq (zwq s l) l':=by unfold zwq; rw [List.foldl_append]
theorem zie:∀ (l:List Mi) (s:List Int × List Se),(∀ m ∈ l,StOK m) → zwq s l = s
 | [],s,_ => rfl
 | m :: l,s,h => by
  have k:=(h m List.mem_cons_self).2
  show zwq (doE m s.1 s.2,doQ m s.2) l = s
  rw [zie l _ (fun q hq => h q (List.mem_cons_of_mem _ hq))]
  unfold doE doQ
  rw [if_neg (by omega),if_neg (by omega),if_neg (by omega)]
theorem yaro {m:Mi} (h:miB m = true):m.kind = 1 ∨ m.kind = 2 ∨ m.kind = 3 ∨ m.kind = 4 ∨ m.kind = 5:=by
 have:=(zlp m.kind m.at_ m.val).1 h
 omega
theorem yapw:∀ (l:List Mi) (ws:List Int) (ps:List St) (es:List Int) (qs:List Se),(∀ m ∈ l,miB m = true) → ps.length + l.length ≤ 400 → qs.length + l.length ≤ 400 → mr l ws ps es qs = ⟨0,(zno (ws,ps) l).1,(zno (ws,ps) l).2,(zwq (es,qs) l).1,(zwq (es,qs) l).2⟩
 | [],ws,ps,es,qs,_,_,_ => rfl
 | m :: l,ws,ps,es,qs,hk,hl,hq => by
   have h1:=yaro (hk m List.mem_cons_self)
   simp only [List.length_cons] at hl hq
   have hf:zpm m ps qs = false:=decide_eq_false (fun h => by omega)
   have e:zrl (ws,ps) m = (doW m ws ps,doP m ps):=by
    unfold zrl doW doP
    rcases h1 with h | h | h | h | h
    ·rw [if_pos h,if_pos h,if_neg (by omega)]
    ·rw [if_neg (by omega),if_pos h,if_neg (by omega),if_neg (by omega),if_pos h]
    ·rw [if_neg (by omega),if_neg (by omega),if_pos h,if_pos h,if_neg (by omega),if_neg (by omega),if_pos h]
    ·rw [if_neg (by omega),if_neg (by omega),if_neg (by omega),if_neg (by omega),if_neg (by omega),if_neg (by omega),if_neg (by omega)]
    ·rw [if_neg (by omega),if_neg (by omega),if_neg (by omega),if_neg (by omega),if_neg (by omega),if_neg (by omega),if_neg (by omega)]
   have hp:(doP m ps).length ≤ ps.length + 1:=by
    unfold doP
    split
    ·simp
    ·split
     ·simp
     ·split
      ·exact Nat.le_trans (List.length_filter_le _ _) (by omega)
      ·omega
   have hq':(doQ m qs).length ≤ qs.length + 1:=by
    unfold doQ
    split
    ·simp
    ·split
     ·simp
     ·omega
   rw [zjt,e,show zwq (es,qs) (m :: l) = zwq (doE m es qs,doQ m qs) l from rfl]
   simp only [mr,hf]
   exact yapw l _ _ _ _ (fun q hq => hk q (List.mem_cons_of_mem _ hq)) (by omega) (by omega)
theorem yauz {us:List Se} (ui:UpIn us) (wv:Wv us):∀ p ∈ zdx us,(48 ≤ p.at_ ∧ p.at_ < 336) ∧ 0 ≤ p.val ∧ p.val < 1099511627776:=by
 intro p hp
 obtain ⟨u,hu,rfl⟩:=List.mem_map.1 (show p ∈ us.map (fun s => up s.at_ s.val) from hp)
 have:=ui u hu
 have:=wv u hu
 exact ⟨⟨by show 48 ≤ u.at_; omega,by show u.at_ < 336; omega⟩,by show 0 ≤ u.val; omega,by show u.val < _; omega⟩
theorem zro {us:List Se} (ui:UpIn us) (wv:Wv us) (hl:us.length ≤ 16):∀ m ∈ zdr (zdx us),StOK m:=by
 intro m hm
 have A:=yauz ui wv
 unfold zdr zin at hm
 split at hm
 ·cases hm
 ·rcases List.mem_append.1 hm with hm | hm
  ·rcases List.mem_append.1 hm with hm | hm
   ·refine zwh (fun p hp => ?_) m hm
    have h1:=yaff (zdx us) 0 p hp
    have h2:=yaju (zdx us) 0 A p hp
    rw [zcj] at h1
    omega
   ·refine zwh (yaqg _ ?_) m hm
    rw [zcj]
    omega
  ·rcases List.mem_append.1 hm with hm | hm
   ·exact zwh (fun p hp => by have:=A p hp; omega) m hm
   ·exact zwh (yaqg 0 (by omega)) m hm
structure Idle (ws es:List Int) (ns:List Ino) (ds:List Den):Prop where
 wi:Wi ws ns ds
 c0:wdI ws 8 = 0
 pm:pmB ws [] = true
 bk:zgk es [] = true
theorem Idle.img {ws es:List Int} {ns:List Ino} {ds:List Den} (h:Idle ws es ns ds):zcb ns ds = true:=zbz.2 h.wi.img
theorem zlb {ws es:List Int} {ns:List Ino} {ds:List Den} (h:Idle ws es ns ds) {l:List Mi} {ws':List Int} {ns':List Ino} {ds':List Den} (r:zno (ws,[]) l = (ws',[])) (c:wdI ws' 8 = 0) (w:Wi ws' ns' ds') (hm:∀ m ∈ l,miB m = true) (hl:l.length ≤ 200) (q:(zwq (es,[]) l).2 = []) :
  ∃ es',mr l ws [] es [] = ⟨0,ws',[],es',[]⟩ ∧ Idle ws' es' ns' ds':=by
 have e:=yapw l ws [] es [] hm (by simp; omega) (by simp; omega)
 rw [r,q] at e
 have k:=yasm l ws [] es [] h.pm h.bk hm
 rw [e] at k
 exact ⟨_,e,w,c,k.1,k.2⟩
theorem zuf {ws es:List Int} {ns:List Ino} {ds:List Den} (h:Idle ws es ns ds):∃ ws' es' ns' ds',mr [] ws [] es [] = ⟨0,ws',[],es',[]⟩ ∧ Idle ws' es' ns' ds':=⟨ws,es,ns,ds,rfl,h⟩
theorem yaee {ws es:List Int} {ns:List Ino} {ds:List Den} (h:Idle ws es ns ds) {us:List Se} (ui:UpIn us) (hl:us.length ≤ 16) (wv:Wv us) {ns':List Ino} {ds':List Den} (q:Wi (zbk ws us) ns' ds') :
  ∃ ws' es' ns' ds',mr (zdr (zdx us)) ws [] es [] = ⟨0,ws',[],es',[]⟩ ∧ Idle ws' es' ns' ds':=by
 obtain ⟨ls',r,c,w⟩:=yapc h.wi h.c0 ⟨ui,hl⟩ q
 have ok:=zro ui wv hl
 have pl:=zkn us
 obtain ⟨es',e,k⟩:=zlb h r c w (fun m hm => (ok m hm).1) (by omega) (by rw [zie _ _ ok])
 exact ⟨ls',es',ns',ds',e,k⟩
theorem yaqw (a x:Int):(⟨1,a,x⟩ :: zbl [a]:List Mi) = seg [up a x]:=rfl
theorem yajy {a x:Int} (ha:0 ≤ a ∧ a < 336) (hx:0 ≤ x ∧ x < 1099511627776):∀ m ∈ (⟨1,a,x⟩ :: zbl [a]:List Mi),StOK m:=by
 rw [yaqw]
 refine zwh (fun p hp => ?_)
 rw [List.mem_singleton.1 hp]
 exact ⟨ha,hx⟩
theorem zyv {x:Int} (h:zbd x = true):0 ≤ x ∧ x < 1099511627776:=of_decide_eq_true h
theorem yaib (a x:Int):(⟨1,a,x⟩ :: zbl [a]:List Mi).length ≤ 3:=by
 have:=zbv [a]
 simp only [List.length_cons,List.length_nil] at this ⊢
 omega
theorem yaqj {k x:Int} (hk:0 ≤ k ∧ k < 32) (hx:0 ≤ x ∧ x < 1099511627776):∀ m ∈ ([⟨4,k,x⟩,⟨5,0,0⟩]:List Mi),miB m = true:=by
 intro m hm
 rcases List.mem_cons.1 hm with rfl | hm
 ·exact (zlp _ _ _).2 (.inr (.inr (.inl ⟨rfl,hk,hx⟩)))
 ·rw [List.mem_singleton.1 hm]
  exact (zlp _ _ _).2 (.inr (.inr (.inr ⟨.inr rfl,rfl,rfl⟩)))
theorem yabb (es:List Int) (k x:Int):(zwq (es,[]) [⟨4,k,x⟩,⟨5,0,0⟩]).2 = []:=rfl
theorem yach {ws es:List Int} {ns:List Ino} {ds:List Den} (h:Idle ws es ns ds) {s:ByteArray} {page x:Int} (e:(wrI ns ds s page x).2 = 0) :
  (∃ ws' es' ns' ds',mr (wrI ns ds s page x).1 ws [] es [] = ⟨0,ws',[],es',[]⟩ ∧ Idle ws' es' ns' ds') ∧ (∀ m ∈ (wrI ns ds s page x).1,miB m = true) ∧ (wrI ns ds s page x).1.length ≤ 200 ∧ 0 ≤ page ∧ page < 8:=by
 obtain ⟨i,p,ls',hi,hp,ei,ep,r,c,w⟩:=yamv h.wi h.c0 (show wrI ns ds s page x = ((wrI ns ds s page x).1,0) by rw [← e])
 subst ep
 have f0:(flI ns ds s).2 = 0:=by
  unfold wrI at e
  split at e
  ·assumption
  ·assumption
 have form:∃ n:¬ (fpI ns < 0 ∧ fsI ns < 0),zbd x = true ∧ (wrI ns ds s (p:Int) x).1 = wrS ns x ++ zdr (zdx (wrU (i:Int) (p:Int) (zdp ns (i:Int)) (wrE ns))):=by
  unfold wrI at e ⊢
  rw [if_pos f0,ei] at e ⊢
  unfold wrF at e ⊢
  by_cases d:(0 ≤ (p:Int) ∧ (p:Int) < 8) ∧ zbd x = true
  ·rw [if_pos d] at e ⊢
   by_cases f:fpI ns < 0 ∧ fsI ns < 0
   ·rw [if_pos f] at e
    cases e
   ·rw [if_neg f]
    exact ⟨f,d.2,rfl⟩
  ·rw [if_neg d] at e
   cases e
 obtain ⟨nf,wx,F⟩:=form
 have X:=zyv wx
 have k:=(zgu h.wi.img f0)
 obtain ⟨i',hi',ei',k1⟩:=k
 have e':i' = i:=by rw [ei] at ei'; omega
 subst e'
 obtain ⟨te,he,new⟩:=yaih nf
 have sz:zdp ns (i':Int) = (zan ns i').size:=by unfold zdp; rw [Int.toNat_natCast]
 have ww:=ztf h.wi hi k1 hp te he new
 have wv:Wv (wrU (i':Int) (p:Int) (zan ns i').size (wrE ns)):=by
  have:=zer te
  unfold wrU
  refine Wv.cons (by omega) ?_
  split
  ·exact Wv.one (by omega)
  ·intro u hu; cases hu
 have ul:(wrU (i':Int) (p:Int) (zan ns i').size (wrE ns)).length ≤ 2:=by unfold wrU; split <;> simp
 have ok2:=zro ww.1 wv (by omega)
 have pl:=zkn (wrU (i':Int) (p:Int) (zan ns i').size (wrE ns))
 rw [sz] at F
 have b1:fpI ns < 24:=by
  have:=(zec (fun i => !zhv (zbp (zap ns) 1) (i:Int)) 24).2
  unfold fpI
  omega
 have b2:fsI ns < 32:=by
  have:=(zec (fun i => !zhv (zbp (zap ns) 2) (i:Int)) 32).2
  unfold fsI
  omega
 have okS:(∀ m ∈ wrS ns x,miB m = true) ∧ (wrS ns x).length ≤ 3 ∧ (zwq (es,[]) (wrS ns x)).2 = []:=by
  unfold wrS
  by_cases q:0 ≤ fpI ns
  ·rw [if_pos q]
   have o:=yajy (a:=312 + fpI ns) (x:=x) (by omega) X
   exact ⟨fun m hm => (o m hm).1,yaib _ _,by rw [zie _ _ o]⟩
  ·rw [if_neg q]
   exact ⟨yaqj (by omega) X,by simp,yabb _ _ _⟩
 have ALL:∀ m ∈ (wrI ns ds s (p:Int) x).1,miB m = true:=by
  rw [F]
  intro m hm
  rcases List.mem_append.1 hm with hm | hm
  ·exact okS.1 m hm
  ·exact (ok2 m hm).1
 have LEN:(wrI ns ds s (p:Int) x).1.length ≤ 200:=by
  rw [F,List.length_append]
  have:=okS.2.1
  omega
 obtain ⟨es',e2,k2⟩:=zlb h r c w ALL LEN (by
  rw [F,zok]
  rw [zie _ _ ok2]
  exact okS.2.2)
 exact ⟨⟨_,_,_,_,e2,k2⟩,ALL,LEN,by omega,by omega⟩
def touH (hs:List Int) (k:Nat):List Int:=hs.set k (min 64 (hs.getD k 0 + 8))
theorem zbq {hs:List Int} (h:zjp hs = true):hs.length = 128 ∧ ∀ k (h:k < hs.length),0 ≤ hs[k] ∧ hs[k] ≤ 64:=of_decide_eq_true h
theorem yasc {w:World} {base:Nat} {e:TypeId} {size:Nat} {v:Value} {n:Nat} {xs:List Value} (h:w.ownsRow base e size v n xs) (hn:0 < n):∃ b c,v = .slice (some ⟨b,0,none⟩) n c ∧ n ≤ c:=by
 rcases (zad h).shape with ⟨_,e,_⟩ | ⟨b,c,rfl,hc,_⟩
 ·omega
 ·exact ⟨b,c,rfl,hc⟩
set_option maxRecDepth 100000 in
set_option maxHeartbeats 4000000 in
theorem zwd (v:Value) (hs:List Int) (i p:Nat) (w:World) (h:RdI w v hs) (hn:hs.length = 128) (hr:∀ k (h:k < hs.length),0 ≤ hs[k] ∧ hs[k] ≤ 64) (hi:i < 16) (hp:p < 8) :
  Calls Tryz.prog 138 #[v,.int .i64 (i:Int),.int .i64 (p:Int)] w fun e w' => ∃ v',e = .returned v' ∧ Row w' 3 1 w.heap.size w'.heap.size v' (touH hs (8 * i + p)).length (zdh (touH hs (8 * i + p))) ∧ Below w.heap.size w w':=by
 obtain ⟨ao,cap,rfl,hcap,-⟩:=h.shape
 have HR:Hid (Rd (w.alloc (.cells #[] 3)) 1 (.slice ao hs.length cap) hs.length (zdh hs)):=Rd.below h ((Below.refl _ _).alloc (Nat.le_refl _) _)
 have ST:Hid (InI w (w.alloc (.cells #[] 3)) (.slice (some ⟨w.heap.size,0,none⟩) 0 0) []):=⟨World.ownsRow_lit w #[] 0 (Nat.le_refl _) (by simp [maxLen]) (by simp),(Below.refl _ _).alloc (Nat.le_refl _) _⟩
 have hz:w.heap.size ≤ (w.alloc (.cells #[] 3)).heap.size:=ST.out.z
 obtain ⟨k,hk⟩:∃ k:Nat,k = 8 * i + p:=⟨_,rfl⟩
 have k128:k < hs.length:=by omega
 have KL:=zaa k128
 obtain ⟨z0,z64⟩:=hr k k128
 have EG:Hid (hs.getD k 0 = hs[k]):=by unfold Hid; rw [List.getD_eq_getElem?_getD,List.getElem?_eq_getElem k128]; rfl
 have ET:Hid (touH hs k = hs.set k (min 64 (hs[k] + 8))):=by unfold Hid touH; rw [EG.out]
 have kk:(8 * (i:Int) + (p:Int)) = (k:Int):=by omega
 have w1f:IntKind.i64.wrap (8 * (i:Int)) = 8 * (i:Int):=by rw [IntKind.wrap_i64]; omega
 have w2f:IntKind.i64.wrap (8 * (i:Int) + (p:Int)) = (k:Int):=by rw [IntKind.wrap_i64]; omega
 have w3f:IntKind.i64.wrap (hs[k] + 8) = hs[k] + 8:=by rw [IntKind.wrap_i64]; omega
 rw [← hk,ET.out]
 have CL:Hid ((zdh hs)[k]? = some (.int .i64 hs[k])):=zcu hs k k128
 have hl1:hs.length ≤ 128:=by omega
 clear hn hr
 generalize hs[k] = z at *
 obtain ⟨mm,em,cm⟩:∃ mm:Int,min 64 (z + 8) = mm ∧ ((z + 8 < 64 ∧ mm = z + 8) ∨ (¬ z + 8 < 64 ∧ mm = 64)):=⟨min 64 (z + 8),rfl,by omega⟩
 rw [em]
 have CM:=zaa cm
 clear em cm
 go_enter Tryz.func138,Tryz.ntmps138
 go_wp2_with (at_builtin; refine zae _ rfl (.tmp 8) (.tmp 9) 23 rfl w.heap.size 3 (.int .i64 0) 1 8 Tryz.underlying23 zld rfl (by decide) _ _ _ rfl ST.out.l _ hs.length (zdh hs) rfl HR.out (zfm _) (by first | omega | (simp [maxLen]; omega)) (by first | omega | (simp; omega)) hz ?_)
 intro vN wN hownN hgrN
 have G:Hid (Row wN 3 1 w.heap.size wN.heap.size vN hs.length (zdh hs)):=by
  have q:=zad hownN
  exact q
 have BN:Hid (Below w.heap.size w wN):=ST.out.b.grown hgrN hz (fun q hq => (ST.out.l.lt q hq).1)
 obtain ⟨b,c,rfl,hcb⟩:=yasc G.out.1 (by omega)
 obtain ⟨_,_,_,hbl,hfr,hcl⟩:=G.out.at
 have e0:wN.cell? ⟨b,k,none⟩ = some (.int .i64 z):=(hcl k (by omega)).trans CL.out
 have f0:wN.frozen? ⟨b,k,none⟩ = false:=hfr k
 have k0:(0:Int) ≤ (k:Int):=by omega
 have k1:(k:Int) < (hs.length:Int):=by omega
 have hwb:w.heap.size ≤ b:=(G.out.1.lt b rfl).1
 have R2:Hid (Row (wN.setCell ⟨b,k,none⟩ (.int .i64 mm)) 3 1 w.heap.size (wN.setCell ⟨b,k,none⟩ (.int .i64 mm)).heap.size (.slice (some ⟨b,0,none⟩) hs.length c) hs.length (zdh (hs.set k mm))):=by
  have q:=G.out.stored k (.int .i64 mm)
  rw [zif] at q
  exact q.wide (Nat.le_refl _) (by simp [World.setCell])
 have B2:Hid (Below w.heap.size w (wN.setCell ⟨b,k,none⟩ (.int .i64 mm))):=BN.out.setCell hwb _
 clear hownN hgrN G BN HR ST hcl hfr kk hk
 rcases CM.out with ⟨c1,rfl⟩ | ⟨c1,rfl⟩
 ·have mn:min 64 (z + 8) = z + 8:=by omega
  go_wp2
  go_ret
  exact ⟨_,rfl,R2.out,B2.out⟩
 ·have mn:min 64 (z + 8) = 64:=by omega
  go_wp2
  go_ret
  exact ⟨_,rfl,R2.out,B2.out⟩
theorem yasd {hs:List Int} (h:hs.length = 128) (k:∀ k (h:k < hs.length),0 ≤ hs[k] ∧ hs[k] ≤ 64):zjp hs = true:=decide_eq_true ⟨h,k⟩
theorem yafx:zjp (ztn 128) = true:=yasd (zrz 128) (fun k h => by
 have e:(ztn 128)[k] = 1:=List.eq_of_mem_replicate (List.getElem_mem h)
 rw [e]
 omega)
set_option maxRecDepth 100000 in
theorem zgy (n:Int) (hn:2 ≤ n ∧ n ≤ 1000) (w0 w:World) (b k:Nat) (vC:Value) (bs:List Int) (h:Src w0 w b vC bs k) (hk:k ≤ 900000) :
  Calls Tryz.prog 48 #[.pointer (some ⟨b,0,none⟩),.int .i64 n] w fun e w' => ∃ r:Bool,e = .returned (.bool r) ∧ Src w0 w' b vC bs (k + 3) ∧ Outside b (b + 1) w w' ∧ w'.heap.size = w.heap.size:=by
 have HS:=zaa h
 have wn:IntKind.i64.wrap (n - 1) = n - 1:=by rw [IntKind.wrap_i64]; omega
 clear h
 go_enter Tryz.func48,Tryz.ntmps48
 go_wp2_with fail
 refine (zbr n hn w0 w b k vC bs HS.out hk).mono ?_
 rintro e w1 ⟨r,rfl,r0,r1,hs,ho,hz⟩
 have S1:=zaa hs
 have O1:=zaa ho
 clear hs ho
 go_wp2
 go_ret
 exact ⟨_,rfl,S1.out,O1.out,hz⟩
def isIB:Value → Bool
 | .int _ _ => true
 | _ => false
def isSB:Value → Bool
 | .string _ => true
 | _ => false
def zla:List Value → Bool
 | [] => true
 | [a] => !isSB a
 | [a,b] => !isSB a && !isSB b
 | a :: b :: c :: t => !isSB a && !(isIB a && isIB b && isIB c) && zla (b :: c :: t)
theorem znl {a:Value} {l:List Value} (h:zla (a :: l) = true):isSB a = false ∧ zla l = true:=by
 match l with
 | [] => simp [zla] at h; exact ⟨h,rfl⟩
 | [b] => simp [zla] at h; exact ⟨h.1,by simp [zla,h.2]⟩
 | b :: c :: t =>
  simp only [zla,Bool.and_eq_true,Bool.not_eq_true'] at h
  exact ⟨h.1.1,h.2⟩
theorem zwa:∀ {l:List Value},zla l = true → ∀ (j:Nat) (v:Value),l[j]? = some v → isSB v = false
 | [],_,j,v,e => by cases e
 | a :: l,h,0,v,e => by
  simp only [List.getElem?_cons_zero,Option.some.injEq] at e
  rw [← e]
  exact (znl h).1
 | a :: l,h,j + 1,v,e => zwa (znl h).2 j v (by simpa using e)
theorem zqv:∀ {l:List Value},zla l = true → ∀ (j:Nat) (a b c:Value),l[j]? = some a → l[j + 1]? = some b → l[j + 2]? = some c → ¬ (isIB a = true ∧ isIB b = true ∧ isIB c = true)
 | [],_,j,_,_,_,e,_,_ => by cases e
 | x :: l,h,0,a,b,c,e1,e2,e3 => by
  match l,h,e2,e3 with
  | [],_,e2,_ => simp at e2
  | [y],_,_,e3 => simp at e3
  | y :: z :: t,h,e2,e3 =>
   simp only [List.getElem?_cons_zero,List.getElem?_cons_succ,Option.some.injEq] at e1 e2 e3
   subst e1 e2 e3
   simp only [zla,Bool.and_eq_true,Bool.not_eq_true'] at h
   intro q
   have:=h.1.2
   rw [q.1,q.2.1,q.2.2] at this
   cases this
 | x :: l,h,j + 1,a,b,c,e1,e2,e3 => zqv (znl h).2 j a b c (by simpa using e1) (by simpa using e2) (by simpa using e3)
def Hard (xs:List Value):Prop:=(∃ (j:Nat) (v:Value),xs[j]? = some v ∧ isSB v = true) ∨ ∃ (j:Nat) (a b c:Value),xs[j]? = some a ∧ xs[j + 1]? = some b ∧ xs[j + 2]? = some c ∧ isIB a = true ∧ isIB b = true ∧ isIB c = true
structure Soft (w w':World):Prop where
 size:w.heap.size ≤ w'.heap.size
 blk:∀ j,j < w.heap.size → w'.heap[j]? = w.heap[j]? ∨ ∃ cs t fr,w.heap[j]? = some (.cells cs t fr) ∧ zla cs.toList = true
theorem Soft.refl (w:World):Soft w w:=⟨Nat.le_refl _,fun _ _ => .inl rfl⟩
theorem Soft.trans {a b c:World} (h:Soft a b) (k:Soft b c):Soft a c :=
 ⟨Nat.le_trans h.size k.size,fun j hj => by
  rcases h.blk j hj with e | e
  ·rcases k.blk j (Nat.lt_of_lt_of_le hj h.size) with f | f
   ·exact .inl (f.trans e)
   ·rw [e] at f
    exact .inr f
  ·exact .inr e⟩
theorem Soft.of_below {w w':World} (h:Below w.heap.size w w'):Soft w w':=⟨h.size,fun j hj => .inl (h.block j hj)⟩
theorem Soft.alloc {a w:World} (h:Soft a w) (o:Obj):Soft a (w.alloc o):=h.trans (.of_below ((Below.refl _ _).alloc (Nat.le_refl _) _))
theorem Soft.drew {a w:World} (h:Soft a w):Soft a w.drew:=h.trans (.of_below (Below.refl _ _).drew)
theorem Soft.set {a w:World} (h:Soft a w) {b:Nat} {cs:Array Value} {t:TypeId} {fr:Nat × Nat} (hb:w.heap[b]? = some (.cells cs t fr)) (hs:zla cs.toList = true) (j:Nat) (u:Value):Soft a (w.setCell ⟨b,j,none⟩ u) :=
 h.trans ⟨by simp [World.setCell],fun k _ => by
  by_cases e:k = b
  ·subst e
   exact .inr ⟨cs,t,fr,hb,hs⟩
  ·exact .inl (Below.heap_setCell _ _ _ _ e)⟩
theorem Soft.outside {w w':World} {b:Nat} {cs:Array Value} {t:TypeId} {fr:Nat × Nat} (h:Outside b (b + 1) w w') (hb:w.heap[b]? = some (.cells cs t fr)) (hs:zla cs.toList = true):Soft w w' :=
 ⟨h.size,fun k hk => by
  by_cases e:k = b
  ·subst e
   exact .inr ⟨cs,t,fr,hb,hs⟩
  ·exact .inl (h.block k hk (by omega))⟩
theorem Rd.soft {w w':World} {size:Nat} {v:Value} {n:Nat} {xs:List Value} (h:Rd w size v n xs) (hs:Soft w w') (hd:0 < n * size → Hard xs):Rd w' size v n xs:=by
 by_cases hn:0 < n * size
 ·refine h.same hs.size (fun j hj he => ?_)
  rcases hs.blk j hj with e | ⟨cs,t,fr,hb,sf⟩
  ·exact e
  ·exfalso
   obtain ⟨hl,ao,cap,rfl,_,hc⟩:=h
   have hn':0 < n:=by
    rcases Nat.eq_zero_or_pos n with e | e
    ·subst e; simp at hn
    ·exact e
   obtain ⟨b',o,rfl,_,hc⟩:=hc hn'
   simp only [Value.ownBlock,Option.some.injEq] at he
   subst he
   have C:∀ k u,xs[k]? = some u → cs.toList[o + k]? = some u:=fun k u e => by
    have hk:k < n * size:=by
     have:=(List.getElem?_eq_some_iff.1 e).1
     omega
    have:=hc k hk
    rw [e] at this
    simp only [World.cell?,hb] at this
    simpa using this
   rcases hd hn with ⟨k,u,e,f⟩ | ⟨k,a,b,c,e1,e2,e3,f1,f2,f3⟩
   ·have:=zwa sf _ _ (C k u e)
    rw [f] at this
    cases this
   ·exact zqv sf (o + k) a b c (C k a e1) (C (k + 1) b e2) (C (k + 2) c e3) ⟨f1,f2,f3⟩
 ·obtain ⟨h3,ao,cap,rfl,h4,h5⟩:=h
  refine ⟨h3,ao,cap,rfl,h4,fun hp => ?_⟩
  obtain ⟨b',o,e,hlt,hc⟩:=h5 hp
  exact ⟨b',o,e,Nat.lt_of_lt_of_le hlt hs.size,fun j hj => absurd (Nat.lt_of_le_of_lt (Nat.zero_le _) hj) hn⟩
theorem yaer {zs:List Int} (h:3 ≤ zs.length):Hard (zdh zs):=.inr ⟨0,_,_,_,zcu zs 0 (by omega),zcu zs 1 (by omega),zcu zs 2 (by omega),rfl,rfl,rfl⟩
theorem RdI.soft {w w':World} {v:Value} {zs:List Int} (h:RdI w v zs) (hs:Soft w w') (h3:3 ≤ zs.length):RdI w' v zs:=Rd.soft h hs (fun _ => yaer h3)
theorem yamo {l:List Mi} (h:0 < l.length):Hard (mis l):=by
 have a:=yahh l 0 h
 have b:=yahj l 0 h
 have c:=yakj l 0 h
 rw [Nat.zero_mul] at a b c
 exact .inr ⟨0,_,_,_,a,b,c,rfl,rfl,rfl⟩
theorem RdM.soft {w w':World} {v:Value} {l:List Mi} (h:RdM w v l) (hs:Soft w w'):RdM w' v l:=Rd.soft h hs (fun hn => yamo (by omega))
theorem yaiq {l:List ByteArray} (h:0 < l.length):Hard (zep l):=.inl ⟨0,.string l[0],by simp [zep,h],rfl⟩
theorem RdT.soft {w w':World} {v:Value} {l:List ByteArray} (h:RdT w v l) (hs:Soft w w'):RdT w' v l:=Rd.soft h hs (fun hn => yaiq (by omega))
theorem Rd.softNil {w w':World} {size:Nat} {v:Value} (h:Rd w size v 0 []) (hs:Soft w w'):Rd w' size v 0 []:=Rd.soft h hs (fun hn => by simp at hn)
theorem RdDev.soft {w w':World} {v:Value} {ws es:List Int} (h:RdDev w v ws [] es []) (hs:Soft w w') (h1:3 ≤ ws.length) (h2:3 ≤ es.length):RdDev w' v ws [] es []:=by
 obtain ⟨vW,vP,vS,vQ,rfl,⟨_,_,e1,a,b⟩,⟨_,_,e2,c,d⟩⟩:=h
 cases e1
 cases e2
 exact ⟨_,_,_,_,rfl,⟨_,_,rfl,RdI.soft a hs h1,Rd.softNil b hs⟩,⟨_,_,rfl,RdI.soft c hs h2,Rd.softNil d hs⟩⟩
theorem yani {w:World} {b:Nat} {t:TypeId} {x y z u a b' c d:Value} (h:w.heap[b]? = some (.cells #[x,y,z,u] t (0,0))):(putR w b a b' c d).heap[b]? = some (.cells #[a,b',c,d] t (0,0)):=by
 simp [putR,World.setCell,Array.getElem?_modify,h]
theorem belY {a b c:World} (h1:Below a.heap.size a b) (h2:Below b.heap.size b c):Below a.heap.size a c:=zab h1 h2 h1.size
structure MidA (l:List Mi) (ws:List Int) (ps:List St) (es:List Int) (qs:List Se) (w wr:World) (k:Nat) (W:List Int) (P:List St) (E:List Int) (Q:List Se) (a b' c d:Value):Prop where
 run:mr (l.take k) ws ps es qs = ⟨0,W,P,E,Q⟩
 box:wr.heap[w.heap.size]? = some (.cells #[a,b',c,d] 31 (0,0))
 res:wr.heap[w.heap.size + 1]? = some (.cells #[.slice none 0 0,.slice none 0 0,.slice none 0 0,.slice none 0 0] 31 (0,0))
 rd:RdDev wr (.agg #[a,b',c,d]) W P E Q
 below:Below w.heap.size w wr
 size:w.heap.size + 1 < wr.heap.size
theorem RdDev.put {w:World} {b:Nat} {ws:List Int} {ps:List St} {es:List Int} {qs:List Se} {v:Value} {x y z u:Value} {t:TypeId} {fr:Nat × Nat} (h:RdDev w v ws ps es qs) (hb:w.heap[b]? = some (.cells #[x,y,z,u] t fr)) (hx:∀ n,¬ x = .int .i64 n) (hy:∀ n,¬ y = .int .i64 n) (hz:∀ n,¬ z = .int .i64 n) (hu:∀ n,¬ u = .int .i64 n) (p q r s:Value):RdDev (putR w b p q r s) v ws ps es qs:=by
 obtain ⟨vW,vP,vS,vQ,rfl,h1,h2⟩:=h
 have O:=zib w b p q r s
 have N:=zdf hx hy hz hu
 exact ⟨_,_,_,_,rfl,h1.boxless hb N O.size (fun j hj hn => O.block j hj (by omega)),h2.boxless hb N O.size (fun j hj hn => O.block j hj (by omega))⟩
theorem yamt {l:List Mi} {ws:List Int} {ps:List St} {es:List Int} {qs:List Se} (h:(mr l ws ps es qs).c = 0) {k:Nat} (hk:k < l.length) {W:List Int} {P:List St} {E:List Int} {Q:List Se} (r:mr (l.take k) ws ps es qs = ⟨0,W,P,E,Q⟩):zpm l[k] P Q = false:=by
 cases f:zpm l[k] P Q with
 | false => rfl
 | true =>
  rw [yasy hk r f] at h
  cases h
set_option maxRecDepth 100000 in
set_option maxHeartbeats 16000000 in
theorem yacj (v vL:Value) (l:List Mi) (ws:List Int) (ps:List St) (es:List Int) (qs:List Se) (W':List Int) (P':List St) (E':List Int) (Q':List Se) (w:World) (h:RdDev w v ws ps es qs) (hL:RdM w vL l) (hp:pmB ws ps = true) (hb:zgk es qs = true) (hm:∀ m ∈ l,miB m = true) (hl:l.length ≤ 1000) (r:mr l ws ps es qs = ⟨0,W',P',E',Q'⟩) :
  Calls Tryz.prog 103 #[v,vL] w fun e w' => ∃ v',e = .returned v' ∧ RdDev w' v' W' P' E' Q' ∧ Below w.heap.size w w':=by
 have HD:=zaa h
 have CP:=zaa (And.intro hp hb)
 have CM:=zaa hm
 have C0:=zaa (show (mr l ws ps es qs).c = 0 by rw [r])
 have RR:=zaa r
 obtain ⟨aL,cL,rfl,-,hcL⟩:=hL.shape
 have HL:=zaa hcL
 obtain ⟨aW,cW,aP,cP,aS,cS,aQ,cQ,rfl,-,-⟩:=h.form
 clear h hL hcL hp hb hm r
 obtain ⟨V,hV⟩:∃ V,V = (w.alloc (.cells #[.slice aW ws.length cW,.slice aP ps.length cP,.slice aS es.length cS,.slice aQ qs.length cQ] 31)).alloc (.cells #[.slice none 0 0,.slice none 0 0,.slice none 0 0,.slice none 0 0] 31):=⟨_,rfl⟩
 have hb0:Below w.heap.size w V:=by
  rw [hV]
  repeat (refine Below.alloc ?_ (by simp <;> omega) _)
  exact Below.refl _ _
 have I0:Hid (MidA l ws ps es qs w V 0 ws ps es qs (.slice aW ws.length cW) (.slice aP ps.length cP) (.slice aS es.length cS) (.slice aQ qs.length cQ)) :=
  ⟨rfl,by rw [hV]; exact zak (zah rfl),by rw [hV]; exact zah (by simp),HD.out.below hb0,hb0,by rw [hV]; simp⟩
 clear hb0
 go_enter Tryz.func103,Tryz.ntmps103
 go_upto_region 1 with fail
 rw [← hV]
 clear hV
 go_wp2_with fail
 go_loopw [5] (fun i wq => ∃ k:Nat,k ≤ l.length ∧ i = .int .i64 k ∧ ∃ (W:List Int) (P:List St) (E:List Int) (Q:List Se) (d1 d2 d3 d4:Option Addr) (f1 f2 f3 f4:Nat),Hid (MidA l ws ps es qs w wq k W P E Q (.slice d1 W.length f1) (.slice d2 P.length f2) (.slice d3 E.length f3) (.slice d4 Q.length f4))) (fun i _ => l.length - (intOf i).toNat)
 case atStart => exact ⟨0,by omega,rfl,ws,ps,es,qs,_,_,_,_,_,_,_,_,I0⟩
 case round =>
  obtain ⟨k,hk,rfl,W,P,E,Q,d1,d2,d3,d4,f1,f2,f3,f4,I⟩:=hrel
  clear I0
  have hsz:=I.out.size
  by_cases hlt:k < l.length
  ·obtain ⟨bL,oL,rfl,hblL,hcellL⟩:=HL.out (by omega)
   obtain ⟨g0,g1,g2⟩:=hcellL k hlt
   have e0:=(I.out.below.cell (p:=⟨bL,oL + k * 3,none⟩) hblL).trans g0
   have e1:=(I.out.below.cell (p:=⟨bL,oL + k * 3 + 1,none⟩) hblL).trans g1
   have e2:=(I.out.below.cell (p:=⟨bL,oL + k * 3 + 2,none⟩) hblL).trans g2
   have k0:(0:Int) ≤ (k:Int):=by omega
   have k1:(k:Int) < (l.length:Int):=by omega
   clear g0 g1 g2 hcellL
   have XO:=zaa (show pmB W P = true ∧ zgk E Q = true by
    have:=yasm (l.take k) ws ps es qs CP.out.1 CP.out.2 (fun m hm => CM.out m (List.mem_of_mem_take hm))
    rw [I.out.run] at this
    exact this)
   have NX:=zaa (yarq hlt I.out.run (yamt C0.out hlt I.out.run))
   have LD:Hid (∀ v2 w1,RdDev w1 v2 W P E Q → Calls Tryz.prog 147 #[v2,.agg #[.int .i64 l[k].kind,.int .i64 l[k].at_,.int .i64 l[k].val]] w1 fun e w' => ∃ v',e = .returned v' ∧ RdDev w' v' (doW l[k] W P) (doP l[k] P) (doE l[k] E Q) (doQ l[k] Q) ∧ Below w1.heap.size w1 w'):=fun v2 w1 h2 => yakq v2 l[k] W P E Q w1 h2 XO.out.1 XO.out.2 (CM.out _ (List.getElem_mem hlt))
   obtain ⟨x0,x1,x2,x3,y0,y1,y2,y3⟩:=zaq I.out.box
   generalize doW l[k] W P = W2 at *
   generalize doP l[k] P = P2 at *
   generalize doE l[k] E Q = E2 at *
   generalize doQ l[k] Q = Q2 at *
   generalize l[k] = m at *
   go_wp2_with fail
   go_region_law (go_simp; go_at_call 147; refine (LD.out _ _ (I.out.rd.below (by repeat (first | with_reducible exact Below.refl _ _ | with_reducible refine Below.drew ?_)))).mono ?_; rintro e wf ⟨vf,rfl,hrf,hbf⟩; have BF:Hid (Below wr.heap.size wr wf):=belY (by repeat (first | with_reducible exact Below.refl _ _ | with_reducible refine Below.drew ?_)) hbf; have RF:=zaa hrf; obtain ⟨i0,j0,i1,j1,i2,j2,i3,j3,rfl,-,-⟩:=hrf.form; have DB:=zaa ((BF.out.block w.heap.size (by omega)).trans I.out.box); obtain ⟨z0,z1,z2,z3,z4,z5,z6,z7⟩:=zaq DB.out; clear hrf hbf)
   all_goals
    have DR:=zaa ((BF.out.block (w.heap.size + 1) (by omega)).trans I.out.res)
    have G:Hid (MidA l ws ps es qs w (putR wf w.heap.size (.slice i0 W2.length j0) (.slice i1 P2.length j1) (.slice i2 E2.length j2) (.slice i3 Q2.length j3)) (k + 1) W2 P2 E2 Q2 (.slice i0 W2.length j0) (.slice i1 P2.length j1) (.slice i2 E2.length j2) (.slice i3 Q2.length j3)):=by
     have O:=zib wf w.heap.size (.slice i0 W2.length j0) (.slice i1 P2.length j1) (.slice i2 E2.length j2) (.slice i3 Q2.length j3)
     have Z:=znj wf w.heap.size (.slice i0 W2.length j0) (.slice i1 P2.length j1) (.slice i2 E2.length j2) (.slice i3 Q2.length j3)
     have zf:=BF.out.size
     exact ⟨NX.out,yani DB.out,(O.block _ (by omega) (by omega)).trans DR.out,RF.out.put DB.out (zaf _ _ _) (zaf _ _ _) (zaf _ _ _) (zaf _ _ _) _ _ _ _,(zab I.out.below BF.out (by omega)).trans (O.below (Nat.le_refl _) (by omega)),Nat.lt_of_lt_of_eq (show w.heap.size + 1 < wf.heap.size by omega) Z.symm⟩
    go_wp2
    go_roundw
    case rel => exact ⟨k + 1,by omega,by go_num,_,_,_,_,i0,i1,i2,i3,j0,j1,j2,j3,G⟩
    case measure => simp [intOf]; omega
  ·have RUN:=yatk (by omega) I.out.run
   rw [RR.out] at RUN
   obtain ⟨-,rfl,rfl,rfl,rfl⟩:=MR.mk.inj RUN
   obtain ⟨x0,x1,x2,x3,-,-,-,-⟩:=zaq I.out.box
   obtain ⟨y0,y1,y2,y3,y4,y5,y6,y7⟩:=zaq I.out.res
   have O:=zaa (zib wr (w.heap.size + 1) (.slice d1 W'.length f1) (.slice d2 P'.length f2) (.slice d3 E'.length f3) (.slice d4 Q'.length f4))
   have RD:=zaa (I.out.rd.put I.out.res (zaf _ _ _) (zaf _ _ _) (zaf _ _ _) (zaf _ _ _) (.slice d1 W'.length f1) (.slice d2 P'.length f2) (.slice d3 E'.length f3) (.slice d4 Q'.length f4))
   have BD:=zaa (I.out.below.trans (O.out.below (B:=w.heap.size) (by omega) (by omega)))
   clear O
   go_wp2
   refine bodyPost_ret (v:=.agg #[.slice d1 W'.length f1,.slice d2 P'.length f2,.slice d3 E'.length f3,.slice d4 Q'.length f4]) (by simp [results,Tryz.results103,go_sem,y0,y1,y2,y3]) rfl ?_
   exact ⟨_,rfl,RD.out,BD.out⟩
end Go.Proofs.YtkdjfhkalelafaaGreatDoor
