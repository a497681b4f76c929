/- The reference's Drop, plain. -/
import Derived.Test.YtmbcegljmhcdeaaGreatZsw
import Derived.Laws.MakeOwn
import Derived.Test.YtmbcegljmhcdeaaGreatAsG
import Derived.Test.YtmbcegljmhcdeaaGreatRefZ
import Derived.Test.YtmbcegljmhcdeaaGreatRefK
import Derived.Deep.RegionHeld3
import Derived.Laws.ResultCell
import Derived.Deep.RegionWith
import Derived.Test.YtmbcegljmhcdeaaGreatZrc
import Derived.Test.YtmbcegljmhcdeaaGreatZrs
import Derived.Test.YtmbcegljmhcdeaaGreatZlw
namespace Go.Proofs.YtmbcegljmhcdeaaGreat
set_option maxRecDepth 5000
open Go.RowKit
theorem u8mod (k m:Nat) (hm:0<m) (hm2:m<=256):((UInt8.ofNat (k % m)).toNat:Int)=(k:Int) % (m:Int):=by
 have h:k % m<m:=Nat.mod_lt _ hm
 have:(UInt8.ofNat (k % m)).toNat=k % m:=UInt8.toNat_ofNat_of_lt' (by show _<256;omega)
 rw[this];omega
theorem u8add (k:Nat):((UInt8.ofNat (97+k % 4)).toNat:Int)=97+(k:Int) % 4:=by
 have:(UInt8.ofNat (97+k % 4)).toNat=97+k % 4:=UInt8.toNat_ofNat_of_lt' (by show _<256;omega)
 rw[this];omega
theorem u8id (k:Nat) (hk:k<256):((UInt8.ofNat k).toNat:Int)=(k:Int):=by
 have:(UInt8.ofNat k).toNat=k:=UInt8.toNat_ofNat_of_lt' (by show _<256;omega)
 rw[this]
theorem pick3 (w2 W:World) {a1 a2:Option Addr} {n1 n2:List (List UInt8)} {c1 c2:Nat} (hW:W=(w2.alloc (.cells #[.string ⟨#[102,97,114]⟩,.string ⟨#[110,101,116]⟩] 9)).alloc (.cells #[.slice a1 n1.length c1,.slice a2 n2.length c2,.slice (some ⟨w2.heap.size,0,none⟩) 2 2] 28)) (j:Nat) (hj:j<3) (h1:SlS w2 a1 n1) (h2:SlS w2 a2 n2) (h3:SlS (w2.alloc (.cells #[.string ⟨#[102,97,114]⟩,.string ⟨#[110,101,116]⟩] 9)) (some ⟨w2.heap.size,0,none⟩) Z.farN) {nm:List (List UInt8)} (hnm:nm = [n1,n2,Z.farN].getD j []) :
 ∃ av nv cv,W.cell? ⟨w2.heap.size+1,j,none⟩=some (.slice av nv cv)/\SlS W av nm/\nm.length=nv /\ ∀ h,(#[.slice a1 n1.length c1,.slice a2 n2.length c2,.slice (some ⟨w2.heap.size,0,none⟩) 2 2]:Array Value)[j]'h = .slice av nv cv:=by
 have hr:RowAt W (w2.heap.size+1) 28 #[.slice a1 n1.length c1,.slice a2 n2.length c2,.slice (some ⟨w2.heap.size,0,none⟩) 2 2]:=by
  rw[hW]
  have:=RowAt.new (w2.alloc (.cells #[.string ⟨#[102,97,114]⟩,.string ⟨#[110,101,116]⟩] 9)) 28 #[.slice a1 n1.length c1,.slice a2 n2.length c2,.slice (some ⟨w2.heap.size,0,none⟩) 2 2]
  rw[World.size_alloc] at this
  exact this
 rcases (by omega:j=0\/j=1\/j=2) with h | h | h <;> subst h
 ·exact⟨a1,n1.length,c1,hr.cell 0,by rw[hnm,hW];exact (h1.alloc _).alloc _,by rw[hnm];rfl,fun _=>rfl⟩
 ·exact⟨a2,n2.length,c2,hr.cell 1,by rw[hnm,hW];exact (h2.alloc _).alloc _,by rw[hnm];rfl,fun _=>rfl⟩
 ·exact⟨_,2,2,hr.cell 2,by rw[hnm,hW];exact h3.alloc _,by rw[hnm];rfl,fun _=>rfl⟩
theorem make15 (W:World):(Instr.makeSlice 37 (.int .i64 15) (.int .i64 15)).run Tryz.prog W = .ok (.slice (some ⟨W.heap.size,0,none⟩) 15 15) (W.alloc (.cells #[.int .u8 0,.int .u8 0,.int .u8 0,.int .u8 0,.int .u8 0,.int .u8 0,.int .u8 0,.int .u8 0,.int .u8 0,.int .u8 0,.int .u8 0,.int .u8 0,.int .u8 0,.int .u8 0,.int .u8 0] 5)):=by
 obtain⟨i0,hi,hz0,hz1,hz2⟩:=info_parts infoB
 rw[run_make (P:=Tryz.prog) W 37 5 i0 (.int .u8 0) Tryz.underlying37 hi hz0 .i64 .i64 15 15 (by omega) (Int.le_refl _) (by rw[hz2];omega) (by omega)]
 rw[hz1,Nat.mul_one]
 have e:(Value.int .u8 0).cells = #[.int .u8 0]:=rfl
 have e2:madeCells #[.int .u8 0] 15 = #[.int .u8 0,.int .u8 0,.int .u8 0,.int .u8 0,.int .u8 0,.int .u8 0,.int .u8 0,.int .u8 0,.int .u8 0,.int .u8 0,.int .u8 0,.int .u8 0,.int .u8 0,.int .u8 0,.int .u8 0]:=by
  apply Array.toList_inj.1
  rw[toList_madeCells_one]
  rfl
 have e3:Int.toNat 15=15:=rfl
 rw[e,e3,e2]
set_option maxHeartbeats 1000000 in
theorem seatData_1 (k:Nat) (hk:k<256) (w:World):Calls Tryz.prog 81 #[.int .u16 1,.int .u8 (k:Int)] w fun e w' => ∃ v,e = .returned v/\OwnB w' w.heap.size v (Z.dataK 1 k)/\Below w.heap.size w w':=by
 have e:Z.dataK 1 k = [10,0,0,UInt8.ofNat (k % 4)]:=by unfold Z.dataK;rw[if_pos rfl]
 rw[e]
 go_enter Tryz.func81,Tryz.ntmps81
 go_wp2
 go_ret
 exact⟨_,rfl,OwnB.lit w _ _ _ (Nat.le_refl _) (by simp only[vb,List.map_cons,List.map_nil];rw[u8mod k 4 (by decide) (by decide)];rfl) (by simp) 4 rfl,(Below.refl _ w).alloc (Nat.le_refl _) _⟩
set_option maxHeartbeats 1000000 in
theorem seatData_28 (k:Nat) (hk:k<256) (w:World):Calls Tryz.prog 81 #[.int .u16 28,.int .u8 (k:Int)] w fun e w' => ∃ v,e = .returned v/\OwnB w' w.heap.size v (Z.dataK 28 k)/\Below w.heap.size w w':=by
 have e:Z.dataK 28 k=List.replicate 15 0 ++ [UInt8.ofNat (k % 3)]:=by unfold Z.dataK;rw[if_neg (by decide),if_pos rfl]
 rw[e]
 go_enter Tryz.func81,Tryz.ntmps81
 have hmk:=make15 w
 go_wp2_with (at_builtin;go_loud (refine wpList_append_B rfl (.tmp 13) (.tmp 16) rfl w.heap.size (.slice (some ⟨w.heap.size,0,none⟩) 15 15) (List.replicate 15 0) rfl ((OwnB.lit w (List.replicate 15 0) _ _ (Nat.le_refl _) rfl (by decide) 15 rfl).alloc _) (some ⟨w.heap.size+1,0,none⟩) 1 1 [UInt8.ofNat (k % 3)] (by first | rfl | simp[Act.eval]) rfl (by have:=SlL.litm (w.alloc (.cells #[.int .u8 0,.int .u8 0,.int .u8 0,.int .u8 0,.int .u8 0,.int .u8 0,.int .u8 0,.int .u8 0,.int .u8 0,.int .u8 0,.int .u8 0,.int .u8 0,.int .u8 0,.int .u8 0,.int .u8 0] 5)) [UInt8.ofNat (k % 3)] #[.int .u8 ((k:Int) % 3)] 5 (0,0) (by simp only[vb,List.map_cons,List.map_nil];rw[u8mod k 3 (by decide) (by decide)];rfl);simpa using this) (by intro h;cases h) (by simp) (by simp <;> omega) ?_);intro v5 w5 hO5 hG5;have b5:=grown_below ((OwnB.lit w (List.replicate 15 0) _ _ (Nat.le_refl _) rfl (by decide) 15 rfl).alloc _) hG5 (((Below.refl _ w).alloc (Nat.le_refl _) _).alloc (by simp <;> omega) _) (by simp <;> omega))
 go_ret
 exact⟨v5,rfl,hO5,b5⟩
set_option maxHeartbeats 1000000 in
theorem seatData_15 (k:Nat) (hk:k<256) (w:World):Calls Tryz.prog 81 #[.int .u16 15,.int .u8 (k:Int)] w fun e w' => ∃ v,e = .returned v/\OwnB w' w.heap.size v (Z.dataK 15 k)/\Below w.heap.size w w':=by
 have e:Z.dataK 15 k = [0,UInt8.ofNat (k % 3)]++N.wire (Z.underK k):=by unfold Z.dataK;rw[if_neg (by decide),if_neg (by decide),if_pos rfl]
 rw[e]
 go_enter Tryz.func81,Tryz.ntmps81
 have hu:=under_any k hk (w.alloc (.cells #[.int .u8 0,.int .u8 ((k:Int) % 3)] 5))
 have hO1:=hide (OwnB.lit w [0,UInt8.ofNat (k % 3)] #[.int .u8 0,.int .u8 ((k:Int) % 3)] _ (Nat.le_refl _) (by simp only[vb,List.map_cons,List.map_nil];rw[u8mod k 3 (by decide) (by decide)];rfl) (by simp) 2 rfl)
 have hB1:=hide ((Below.refl _ w).alloc (Nat.le_refl _) (.cells #[.int .u8 0,.int .u8 ((k:Int) % 3)] 5))
 go_wp2_with (first
  | (go_at_call 113;refine hu.mono ?_;rintro e w2 ⟨v2,rfl,hO2,hB2⟩;obtain⟨a2,c2,rfl,hS2,hn2,hc2,_⟩:=hO2.open)
  | (go_at_call 47;refine (rWire_any (Z.underK k) a2 _ c2 w2 rfl hS2 (Z.underK_small k)).mono ?_;rintro e w3 ⟨v3,rfl,hO3,hB3⟩;have OM:=hide ((hO1.out.below hB2).below hB3);have BM:=hide (hB1.out.trans ((hB2.mono (by simp)).trans (hB3.mono (by have:=hB2.size;simp at this;omega))));obtain⟨g3,c3,rfl,_,_⟩:=hO3.form (by simp[N.wire]);have S3:=hide hO3.sl)
  | (at_builtin;go_loud (refine wpList_append_B rfl (.tmp 22) (.tmp 25) rfl w.heap.size _ _ rfl (by exact OM.out) _ _ _ (N.wire (Z.underK k)) rfl rfl (by exact S3.out) (by intro h;cases h) (by have:=Z.underK_wire k;simp;omega) (by exact BM.out.size) ?_);intro v5 w5 hO5 hG5;have b5:=grown_below OM.out hG5 BM.out BM.out.size)
  | fail)
 go_ret
 exact⟨v5,rfl,hO5,b5⟩
set_option maxHeartbeats 1000000 in
theorem seatData_16 (k:Nat) (hk:k<256) (w:World):Calls Tryz.prog 81 #[.int .u16 16,.int .u8 (k:Int)] w fun e w' => ∃ v,e = .returned v/\OwnB w' w.heap.size v (Z.dataK 16 k)/\Below w.heap.size w w':=by
 have e:Z.dataK 16 k = [2,104,UInt8.ofNat (97+k % 4)]:=by unfold Z.dataK;rw[if_neg (by decide),if_neg (by decide),if_neg (by decide),if_pos rfl]
 rw[e]
 go_enter Tryz.func81,Tryz.ntmps81
 go_wp2
 go_ret
 exact⟨_,rfl,OwnB.lit w _ _ _ (Nat.le_refl _) (by simp only[vb,List.map_cons,List.map_nil];rw[u8add k];rfl) (by simp) 3 rfl,(Below.refl _ w).alloc (Nat.le_refl _) _⟩
set_option maxHeartbeats 1000000 in
theorem seatData_5 (k:Nat) (hk:k<256) (w:World):Calls Tryz.prog 81 #[.int .u16 5,.int .u8 (k:Int)] w fun e w' => ∃ v,e = .returned v/\OwnB w' w.heap.size v (Z.dataK 5 k)/\Below w.heap.size w w':=by
 have e:Z.dataK 5 k=N.wire (Z.underK k):=by unfold Z.dataK;rw[if_neg (by decide),if_neg (by decide),if_neg (by decide),if_neg (by decide),if_neg (by decide),if_pos rfl]
 rw[e]
 go_enter Tryz.func81,Tryz.ntmps81
 have hu:=under_any k hk w
 go_wp2_with (first
  | (go_at_call 113;refine hu.mono ?_;rintro e w2 ⟨v2,rfl,hO2,hB2⟩;obtain⟨a2,c2,rfl,hS2,hn2,hc2,_⟩:=hO2.open)
  | (go_at_call 47;refine (rWire_any (Z.underK k) a2 _ c2 w2 rfl hS2 (Z.underK_small k)).mono ?_;rintro e w3 ⟨v3,rfl,hO3,hB3⟩)
  | fail)
 go_ret
 exact⟨v3,rfl,hO3.lower hB2.size,hB2.trans (hB3.mono hB2.size)⟩
set_option maxHeartbeats 1000000 in
theorem seatData_43 (k:Nat) (hk:k<256) (w:World):Calls Tryz.prog 81 #[.int .u16 43,.int .u8 (k:Int)] w fun e w' => ∃ v,e = .returned v/\OwnB w' w.heap.size v (Z.dataK 43 k)/\Below w.heap.size w w':=by
 have e:Z.dataK 43 k = [0,UInt8.ofNat (k % 3),253,2,1,2,3]:=by unfold Z.dataK;rw[if_neg (by decide),if_neg (by decide),if_neg (by decide),if_neg (by decide),if_neg (by decide),if_neg (by decide),if_pos rfl]
 rw[e]
 go_enter Tryz.func81,Tryz.ntmps81
 go_wp2
 go_ret
 exact⟨_,rfl,OwnB.lit w _ _ _ (Nat.le_refl _) (by simp only[vb,List.map_cons,List.map_nil];rw[u8mod k 3 (by decide) (by decide)];rfl) (by simp) 7 rfl,(Below.refl _ w).alloc (Nat.le_refl _) _⟩
set_option maxHeartbeats 1000000 in
theorem seatData_2 (k:Nat) (hk:k<256) (w:World):Calls Tryz.prog 81 #[.int .u16 2,.int .u8 (k:Int)] w fun e w' => ∃ v,e = .returned v/\OwnB w' w.heap.size v (Z.dataK 2 k)/\Below w.heap.size w w':=by
 have e:Z.dataK 2 k=N.wire ([Z.owner 8,Z.owner 1,Z.farN].getD (k % 3) []):=by unfold Z.dataK;rw[if_neg (by decide),if_neg (by decide),if_neg (by decide),if_neg (by decide),if_pos rfl]
 rw[e]
 obtain⟨j,hj⟩ : ∃ j,j=k % 3:=⟨_,rfl⟩
 have hj3:j<3:=by omega
 have hmod:((k:Int) % 3)=(j:Int):=by omega
 have hjb:(j:Int)<3:=by omega
 rw[<- hj]
 obtain⟨nm,hnm⟩ : ∃ nm,nm = [Z.owner 8,Z.owner 1,Z.farN].getD j []:=⟨_,rfl⟩
 have hns:N.Small nm:=by
  rw[hnm]
  rcases (by omega:j=0\/j=1\/j=2) with h | h | h <;> subst h
  ·exact Z.owner_small 8
  ·exact Z.owner_small 1
  ·exact Z.far_small
 rw[<- hnm]
 have h8:=owner_any 8 (by decide) w
 have h1:=fun W=>owner_any 1 (by decide) W
 have H1:=hide h1
 have HNM:=hide hnm
 have HNS:=hide hns
 clear hj h1 hnm hns
 go_enter Tryz.func81,Tryz.ntmps81
 go_wp2_with (first
  | (go_at_call 22;refine h8.mono ?_;rintro e w1 ⟨v1,rfl,hO1,hB1⟩;obtain⟨a1,c1,rfl,hS1,hn1,hc1,_⟩:=hO1.open;clear h8)
  | (go_at_call 22;refine (H1.out w1).mono ?_;rintro e w2 ⟨v2,rfl,hO2,hB2⟩;obtain⟨a2,c2,rfl,hS2,hn2,hc2,_⟩:=hO2.open;obtain⟨W,hW⟩ : ∃ W,W=(w2.alloc (.cells #[.string ⟨#[102,97,114]⟩,.string ⟨#[110,101,116]⟩] 9)).alloc (.cells #[.slice a1 (Z.owner 8).length c1,.slice a2 (Z.owner 1).length c2,.slice (some ⟨w2.heap.size,0,none⟩) 2 2] 28):=⟨_,rfl⟩;have hfar:=SlS.litm w2 Z.farN #[.string ⟨#[102,97,114]⟩,.string ⟨#[110,101,116]⟩] 9 (0,0) rfl;obtain⟨av,nv,cv,_,hsl,hln,hget⟩:=pick3 w2 _ hW j hj3 (hS1.below hB2 (Nat.le_refl _)) hS2 hfar HNM.out;have HW:=hide hW;have hb2W:Below w2.heap.size w2 W:=by rw[hW];exact ((Below.refl _ w2).alloc (Nat.le_refl _) _).alloc (by simp) _)
  | (go_at_call 47;rw[<- hW];refine (rWire_any nm av nv cv W hln hsl HNS.out).mono ?_;rintro e w3 ⟨v3,rfl,hO3,hB3⟩)
  | fail)
 go_ret
 have hz1:=hB1.size
 have hz2:=hB2.size
 have hzW:=hb2W.size
 have hb0W:Below w.heap.size w W:=hB1.trans ((hB2.trans (hb2W.mono hz2)).mono hz1)
 exact⟨v3,rfl,hO3.lower (by omega),hb0W.trans (hB3.mono (by omega))⟩
set_option maxHeartbeats 1000000 in
theorem seatData_6 (k:Nat) (hk:k<256) (w:World):Calls Tryz.prog 81 #[.int .u16 6,.int .u8 (k:Int)] w fun e w' => ∃ v,e = .returned v/\OwnB w' w.heap.size v (Z.dataK 6 k)/\Below w.heap.size w w':=by
 have e:Z.dataK 6 k=D.soaB (Z.soaK k):=by unfold Z.dataK;rw[if_neg (by decide),if_neg (by decide),if_neg (by decide),if_neg (by decide),if_neg (by decide),if_neg (by decide),if_neg (by decide),if_pos rfl]
 rw[e]
 have h1:=owner_any 1 (by decide) w
 have h2:=fun W=>owner_any 2 (by decide) W
 have H2:=hide h2
 have hm1:IntKind.u32.wrap ((k:Int)*16777216)=(((Z.soaK k).a:Nat):Int):=by
  show _=((k*16777216 % 4294967296:Nat):Int)
  rw[IntKind.wrap_u32];omega
 have HSE:Hid (10+(k:Int) % 4*20=(((Z.soaK k).e:Nat):Int)):=by
  show _=((10+k % 4*20:Nat):Int)
  omega
 obtain⟨sa,hsa⟩ : ∃ sa,sa=(Z.soaK k).a:=⟨_,rfl⟩
 rw[<- hsa] at hm1
 have HSA:=hide hsa
 clear h2 hsa
 go_enter Tryz.func81,Tryz.ntmps81
 go_wp2_with (first
  | (go_at_call 22;refine h1.mono ?_;rintro e w1 ⟨v1,rfl,hO1,hB1⟩;obtain⟨a1,c1,rfl,hS1,hn1,hc1,_⟩:=hO1.open;clear h1)
  | (go_at_call 22;refine (H2.out w1).mono ?_;rintro e w2 ⟨v2,rfl,hO2,hB2⟩;obtain⟨a2,c2,rfl,hS2,hn2,hc2,_⟩:=hO2.open)
  | (go_at_call 114;go_loud (rw[HSA.out,HSE.out]);go_loud (refine (sSoaBytes_any (Z.soaK k) a1 a2 _ c1 _ c2 w2 rfl rfl (hS1.below hB2 (Nat.le_refl _)) hS2 (Z.soaK_ok k).1 (Z.soaK_ok k).2.1 (Z.soaK_ok k).2.2.1 (show 1<4294967296 by decide) (show 2<4294967296 by decide) (show 3<4294967296 by decide) (Z.soaK_ok k).2.2.2).mono ?_);rintro e w3 ⟨v3,rfl,hO3,hB3⟩)
  | fail)
 go_ret
 have hz1:=hB1.size
 have hz2:=hB2.size
 have hb02:Below w.heap.size w w2:=hB1.trans (hB2.mono hz1)
 exact⟨v3,rfl,hO3.lower (by omega),hb02.trans (hB3.mono (by omega))⟩
set_option maxHeartbeats 1000000 in
theorem seatData_0 (t k:Nat) (hk:k<256) (hne:t≠1/\t≠28/\t≠15/\t≠16/\t≠2/\t≠5/\t≠43/\t≠6) (w:World):Calls Tryz.prog 81 #[.int .u16 (t:Int),.int .u8 (k:Int)] w fun e w' => ∃ v,e = .returned v/\OwnB w' w.heap.size v (Z.dataK t k)/\Below w.heap.size w w':=by
 obtain⟨k1,k2,k3,k4,k5,k6,k7,k8⟩:=hne
 have e:Z.dataK t k = [UInt8.ofNat k]:=by unfold Z.dataK;rw[if_neg k1,if_neg k2,if_neg k3,if_neg k4,if_neg k5,if_neg k6,if_neg k7,if_neg k8]
 rw[e]
 have g0:((t:Int) == 1)=false:=by simp;omega
 have g1:((t:Int) == 28)=false:=by simp;omega
 have g2:((t:Int) == 15)=false:=by simp;omega
 have g3:((t:Int) == 16)=false:=by simp;omega
 have g4:((t:Int) == 2)=false:=by simp;omega
 have g5:((t:Int) == 5)=false:=by simp;omega
 have g6:((t:Int) == 43)=false:=by simp;omega
 have g7:((t:Int) == 6)=false:=by simp;omega
 clear k1 k2 k3 k4 k5 k6 k7 k8
 go_enter Tryz.func81,Tryz.ntmps81
 go_wp2
 go_ret
 exact⟨_,rfl,OwnB.lit w _ _ _ (Nat.le_refl _) (by simp only[vb,List.map_cons,List.map_nil];rw[u8id k hk]) (by simp) 1 rfl,(Below.refl _ w).alloc (Nat.le_refl _) _⟩
theorem seatData_any (t k:Nat) (hk:k<256) (w:World):Calls Tryz.prog 81 #[.int .u16 (t:Int),.int .u8 (k:Int)] w fun e w' => ∃ v,e = .returned v/\OwnB w' w.heap.size v (Z.dataK t k)/\Below w.heap.size w w':=by
 by_cases e1:t=1
 ·subst e1;exact seatData_1 k hk w
 by_cases e28:t=28
 ·subst e28;exact seatData_28 k hk w
 by_cases e15:t=15
 ·subst e15;exact seatData_15 k hk w
 by_cases e16:t=16
 ·subst e16;exact seatData_16 k hk w
 by_cases e2:t=2
 ·subst e2;exact seatData_2 k hk w
 by_cases e5:t=5
 ·subst e5;exact seatData_5 k hk w
 by_cases e43:t=43
 ·subst e43;exact seatData_43 k hk w
 by_cases e6:t=6
 ·subst e6;exact seatData_6 k hk w
 exact seatData_0 t k hk ⟨e1,e28,e15,e16,e2,e5,e43,e6⟩ w
open Go.RowKit
theorem infoRcs:(Tryz.prog.info? 39).map (·.size)=some 5:=by kernel_rfl
theorem results_rc {fn:Func} {p:Tmp} (h:fn.results = #[.cell p 39]) (tmps:Array Value) (w:World) (g:Nat) (cs:Array Value) (hs:cs.size=5) (hp:tmps.getD p undef = .pointer (some ⟨g,0,none⟩)) (hg:RowAt w g 39 cs) :
 (results fn tmps).run Tryz.prog w = .ok (.agg cs) w :=
 results_cell_row h tmps w g 39 cs (0,0) _ hp hg Tryz.underlying39 rfl (by rw[hs];exact infoRcs)
theorem and3 (k:Nat) (hk:k<4294967296):bits .and .u32 ((k:Int) / 16777216) 3=((k / 16777216 % 4:Nat):Int):=by
 have h : ∀ x:Nat,x<256->bits .and .u32 (x:Int) 3=((x % 4:Nat):Int):=by decide +kernel
 have:=h (k / 16777216) (by omega)
 rw[<- this];rfl
theorem ttl_get (k:Nat):((#[.int .u32 30,.int .u32 30,.int .u32 60,.int .u32 5]:Array Value))[k / 16777216 % 4]?=some (.int .u32 (Z.ttlK k:Int)):=by
 have h : ∀ j,j<4->((#[.int .u32 30,.int .u32 30,.int .u32 60,.int .u32 5]:Array Value))[j]?=some (.int .u32 (([30,30,60,5].getD j 0:Nat):Int))
  | 0,_=>rfl | 1,_=>rfl | 2,_=>rfl | 3,_=>rfl
  | j+4,h=>absurd h (by omega)
 exact h _ (Nat.mod_lt _ (by decide))
theorem rz_facts {W:World} {g:Nat} (h:RowAt W g 39 #[.slice none 0 0,.int .u16 0,.int .u16 0,.int .u32 0,.slice none 0 0]):W.cell? ⟨g,0,none⟩=some (.slice none 0 0)/\W.cell? ⟨g,1,none⟩=some (.int .u16 0)/\W.cell? ⟨g,2,none⟩=some (.int .u16 0)/\W.cell? ⟨g,3,none⟩=some (.int .u32 0)/\W.cell? ⟨g,4,none⟩=some (.slice none 0 0) /\
 W.frozen? ⟨g,0,none⟩=false/\W.frozen? ⟨g,1,none⟩=false/\W.frozen? ⟨g,2,none⟩=false/\W.frozen? ⟨g,3,none⟩=false/\W.frozen? ⟨g,4,none⟩=false :=
 ⟨h.cell 0,h.cell 1,h.cell 2,h.cell 3,h.cell 4,h.frozen 0,h.frozen 1,h.frozen 2,h.frozen 3,h.frozen 4⟩
theorem rz_bel {W W':World} {g:Nat} {t:TypeId} {c:Array Value} (hb:Below W.heap.size W W') (h:RowAt W g t c):RowAt W' g t c:=h.below hb h.lt
theorem lit_cell2 {W W':World} {g j tl:Nat} (hb:Below W.heap.size W W') (h:RowAt W g 35 #[.int .u32 30,.int .u32 30,.int .u32 60,.int .u32 5]) (hget:(#[.int .u32 30,.int .u32 30,.int .u32 60,.int .u32 5]:Array Value)[j]?=some (.int .u32 (tl:Int))):W'.cell? ⟨g,j,none⟩=some (.int .u32 (tl:Int)):=by
 rw[(rz_bel hb h).cell];exact hget
theorem cell_bel {W W':World} {B:Nat} {p:Addr} {v:Value} (h:Below B W W') (hB:W.heap.size<=B) (hc:W.cell? p=some v) (hp:p.block<W.heap.size):W'.cell? p=some v:=by
 rw[<- hc];exact World.cell?_of_block (h.block _ (Nat.lt_of_lt_of_le hp hB))
def RecD (w wc:World) (o:List (List UInt8)) (t tl:Nat) (d:List UInt8):Prop := ∃ na nc da dc,RowAt wc w.heap.size 39 #[.slice na o.length nc,.int .u16 (t:Int),.int .u16 1,.int .u32 (tl:Int),.slice da d.length dc]/\TyS wc na o/\o.length<=nc/\TyL wc da d/\(da=none->dc=0)/\d.length<=dc/\Below w.heap.size w wc
theorem bel_of {w X W':World} (h:Below w.heap.size w X) (hb:Below X.heap.size X W'):Below w.heap.size w W':=h.trans (hb.mono h.size)
theorem RecD.mk' {w wz:World} {o:List (List UInt8)} {t tl c3 c4:Nat} {d:List UInt8} {a3 a4:Option Addr} (h:RowAt wz w.heap.size 39 #[.slice none 0 0,.int .u16 0,.int .u16 0,.int .u32 0,.slice none 0 0]) (hb:Below w.heap.size w wz) (T3:TyS wz a3 o) (h3:o.length<=c3) (T4:TyL wz a4 d) (h4:a4=none->c4=0) (h5:d.length<=c4) :
 RecD w (((((wz.setCell ⟨w.heap.size,0,none⟩ (.slice a3 o.length c3)).setCell ⟨w.heap.size,1,none⟩ (.int .u16 (t:Int))).setCell ⟨w.heap.size,2,none⟩ (.int .u16 1)).setCell ⟨w.heap.size,3,none⟩ (.int .u32 (tl:Int))).setCell ⟨w.heap.size,4,none⟩ (.slice a4 d.length c4)) o t tl d:=by
 have r1:=h.set 0 (.slice a3 o.length c3)
 have r2:=r1.set 1 (.int .u16 (t:Int))
 have r3:=r2.set 2 (.int .u16 1)
 have r4:=r3.set 3 (.int .u32 (tl:Int))
 have k:=((((KB.setCell h (by decide) 0 (.slice a3 o.length c3)).trans (KB.setCell r1 (by decide) 1 (.int .u16 (t:Int)))).trans (KB.setCell r2 (by decide) 2 (.int .u16 1))).trans (KB.setCell r3 (by decide) 3 (.int .u32 (tl:Int)))).trans (KB.setCell r4 (by decide) 4 (.slice a4 d.length c4))
 exact⟨a3,c3,a4,c4,r4.set 4 _,T3.kb k,h3,T4.kb k,h4,h5,((((hb.setCell (p:=⟨w.heap.size,0,none⟩) (Nat.le_refl _) _).setCell (p:=⟨w.heap.size,1,none⟩) (Nat.le_refl _) _).setCell (p:=⟨w.heap.size,2,none⟩) (Nat.le_refl _) _).setCell (p:=⟨w.heap.size,3,none⟩) (Nat.le_refl _) _).setCell (p:=⟨w.heap.size,4,none⟩) (Nat.le_refl _) _⟩
end Go.Proofs.YtmbcegljmhcdeaaGreat
namespace Go.Proofs.YtmbcegljmhcdeaaGreat
set_option maxRecDepth 5000
open Go.RowKit
set_option maxRecDepth 100000 in
set_option maxHeartbeats 2000000 in
theorem seatRecord_ty (k:Nat) (hk:k<4294967296) (w:World):Calls Tryz.prog 43 #[.int .u32 (k:Int)] w fun e w' => ∃ na nc da dc,e = .returned (.agg #[.slice na (Z.owner (k % 256)).length nc,.int .u16 (Z.typeK (k / 256 % 256):Int),.int .u16 1,.int .u32 (Z.ttlK k:Int),.slice da (Z.dataK (Z.typeK (k / 256 % 256)) (k / 65536 % 256)).length dc]) /\
 TyS w' na (Z.owner (k % 256))/\(Z.owner (k % 256)).length<=nc/\TyL w' da (Z.dataK (Z.typeK (k / 256 % 256)) (k / 65536 % 256))/\(da=none->dc=0)/\(Z.dataK (Z.typeK (k / 256 % 256)) (k / 65536 % 256)).length<=dc/\Below w.heap.size w w':=by
 obtain⟨t,ht⟩ : ∃ t,t=Z.typeK (k / 256 % 256):=⟨_,rfl⟩
 obtain⟨o,ho⟩ : ∃ o,o=Z.owner (k % 256):=⟨_,rfl⟩
 obtain⟨d,hd⟩ : ∃ d,d=Z.dataK t (k / 65536 % 256):=⟨_,rfl⟩
 rw[<- ht, <- ho, <- hd]
 have h1:IntKind.u8.wrap ((k:Int) / 256)=((k / 256 % 256:Nat):Int):=by rw[IntKind.wrap_u8];omega
 have h2:IntKind.u8.wrap (k:Int)=((k % 256:Nat):Int):=by rw[IntKind.wrap_u8];omega
 have h3:IntKind.u8.wrap ((k:Int) / 65536)=((k / 65536 % 256:Nat):Int):=by rw[IntKind.wrap_u8];omega
 have h4:=and3 k hk
 obtain⟨j,hj⟩ : ∃ j,j=k / 16777216 % 4:=⟨_,rfl⟩
 rw[<- hj] at h4
 have hj4:j<4:=by rw[hj];exact Nat.mod_lt _ (by decide)
 have hjb:(j:Int)<4:=by omega
 have hget:=ttl_get k
 rw[<- hj] at hget
 obtain⟨tl,htl⟩ : ∃ tl,tl=Z.ttlK k:=⟨_,rfl⟩
 rw[<- htl] at hget ⊢
 have hget2 : ∀ h:j<(#[.int .u32 30,.int .u32 30,.int .u32 60,.int .u32 5]:Array Value).size,(#[.int .u32 30,.int .u32 30,.int .u32 60,.int .u32 5]:Array Value)[j] = .int .u32 (tl:Int):=fun h=>by
  rw[Array.getElem?_eq_getElem h] at hget
  exact Option.some.inj hget
 have e1:(k:Int) / 256 % 256=((k / 256 % 256:Nat):Int):=by omega
 have e2:(k:Int) % 256=((k % 256:Nat):Int):=by omega
 have e3:(k:Int) / 65536 % 256=((k / 65536 % 256:Nat):Int):=by omega
 have E1:=hide e1
 have E2:=hide e2
 have E3:=hide e3
 have HT:=hide ht
 clear e1 e2 e3 ht hj htl h1
 go_enter Tryz.func43,Tryz.ntmps43
 go_upto_region 2 with (go_at_call 23;rw[E1.out];refine (seatType_any (k / 256 % 256) (by omega) _).mono ?_;rintro e w1 ⟨he,hB1⟩;rw[HT.out.symm] at he;subst he)
 have HR1:=hide ((RowAt.new w 39 #[.slice none 0 0,.int .u16 0,.int .u16 0,.int .u32 0,.slice none 0 0]).below hB1 (by simp))
 have HB1:=hide hB1
 have HBW:=hide (((Below.refl _ w).alloc (Nat.le_refl _) _).trans (hB1.mono (by simp)))
 clear hB1
 have HO:=hide ho
 have HD:=hide hd
 clear ho hd
 have hown:=fun W=>owner_any (k % 256) (by omega) W
 rw[<- HO.out] at hown
 have hdat:=fun W=>seatData_any t (k / 65536 % 256) (by omega) W
 rw[<- HD.out] at hdat
 have HOW:=hide hown
 have HDA:=hide hdat
 clear hown hdat
 go_cut [2] from 4 (fun s2 wc=>s2 = .pointer (some ⟨w.heap.size,0,none⟩)/\RecD w wc o t tl d)
 case first =>
  go_region_with (first
   | (go_at_call 22;(first | rw[E2.out] | skip);refine (HOW.out _).mono ?_;rintro e w3 ⟨v3,rfl,hO3,hB3⟩;obtain⟨a3,c3,rfl,hT3,hn3,hc3⟩:=hO3.ty;have b3:Below w.heap.size w w3:=bel_of (by first | exact HBW.out | exact HBW.out.drew | exact HBW.out.drew.alloc HBW.out.drew.size _ | exact (HBW.out.alloc HBW.out.size _).drew) hB3;have hR3:RowAt w3 w.heap.size 39 #[.slice none 0 0,.int .u16 0,.int .u16 0,.int .u32 0,.slice none 0 0]:=rz_bel hB3 (by first | exact HR1.out | exact HR1.out.alloc _);(first | have l3:w3.cell? ⟨w1.heap.size,j,none⟩=some (.int .u32 (tl:Int)):=lit_cell2 hB3 (by exact RowAt.new w1 _ _) hget | skip))
   | (go_at_call 81;(first | rw[E3.out] | skip);refine (HDA.out _).mono ?_;rintro e w4 ⟨v4,rfl,hO4,hB4⟩;obtain⟨a4,c4,rfl,hT4,hn4,hc4⟩:=hO4.ty;have b4:Below w.heap.size w w4:=bel_of (by first | exact b3 | exact b3.alloc b3.size _) hB4;have T4:TyS w4 a3 o:=hT3.kb ((by first | exact KB.refl _ | exact KB.alloc _ _:KB w3 _).trans (KB.of_below hB4));have hR4:RowAt w4 w.heap.size 39 #[.slice none 0 0,.int .u16 0,.int .u16 0,.int .u32 0,.slice none 0 0]:=rz_bel hB4 (by first | exact hR3 | exact hR3.alloc _);obtain⟨x0,x1,x2,x3,x4,f0,f1,f2,f3,f4⟩:=rz_facts hR4;obtain⟨y0,y1,y2,y3,y4,g0,g1,g2,g3,g4⟩:=rz_facts (hR4.alloc (.cells #[.int .u32 30,.int .u32 30,.int .u32 60,.int .u32 5] 35));(first | have l4:w4.cell? ⟨w3.heap.size,j,none⟩=some (.int .u32 (tl:Int)):=lit_cell2 hB4 (by exact RowAt.new w3 _ _) hget | have l4:w4.cell? ⟨w1.heap.size,j,none⟩=some (.int .u32 (tl:Int)):=cell_bel hB4 (Nat.le_refl _) l3 (by have:=hB3.size;simp at this;show w1.heap.size<_;omega) | skip))
   | fail)
  all_goals go_wp2_with fail
  all_goals go_meet
  all_goals first
   | exact⟨rfl,RecD.mk' hR4 b4 T4 hc3 hT4 hn4 hc4⟩
   | exact⟨rfl,RecD.mk' (hR4.alloc _) (b4.alloc b4.size _) (T4.kb (KB.alloc _ _)) hc3 (hT4.kb (KB.alloc _ _)) hn4 hc4⟩
 case rest =>
  obtain⟨rfl,na,nc,da,dc,hr,h1,h2,h3,h4,h5,h6⟩:=hcut
  go_wp2
  refine bodyPost_ret (v := .agg _) (results_rc Tryz.results43 _ _ w.heap.size _ rfl rfl hr) rfl ⟨na,nc,da,dc,rfl,h1,h2,h3,h4,h5,h6⟩
def SlU (w:World) (ao:Option Addr) (l:List Nat):Prop:=0<l.length -> ∃ b o,ao=some ⟨b,o,none⟩/\b<w.heap.size /\ ∀ j,j<l.length->w.cell? ⟨b,o+j,none⟩=some (.int .u32 ((l.getD j 0:Nat):Int))
set_option maxRecDepth 5000 in
theorem SlU.below {B:Nat} {w w':World} {ao:Option Addr} {l:List Nat} (h:SlU w ao l) (hb:Below B w w') (hB:w.heap.size<=B):SlU w' ao l:=fun hn=>by
 obtain⟨b,o,e,hlt,hc⟩:=h hn
 refine⟨b,o,e,Nat.lt_of_lt_of_le hlt hb.size,fun j hj=>?_⟩
 rw[<- hc j hj]
 exact World.cell?_of_block (hb.block b (by omega))
end Go.Proofs.YtmbcegljmhcdeaaGreat
namespace Go.Proofs.YtmbcegljmhcdeaaGreat
set_option maxRecDepth 5000
open Go.RowKit
structure RcT where
 n:List (List UInt8)
 t:Nat
 ttl:Nat
 d:List UInt8
structure RcT.Good (x:RcT):Prop where
 inA:N.within x.n Z.exA=true
 small:N.Small x.n
 len:x.n.length<=4
 t:x.t<65536
 ttl:x.ttl<4294967296
 dl:x.d.length<=8192
def ERc (w:World) (x:RcT) (us:List Value):Prop := ∃ na nc da dc,us = [.slice na x.n.length nc,.int .u16 (x.t:Int),.int .u16 1,.int .u32 (x.ttl:Int),.slice da x.d.length dc]/\TyS w na x.n/\x.n.length<=nc/\TyL w da x.d/\(da=none->dc=0)/\x.d.length<=dc
theorem ERc.kb {w w':World} {x:RcT} {us:List Value} (h:ERc w x us) (k:KB w w'):ERc w' x us:=by
 obtain⟨na,nc,da,dc,e,h1,h2,h3,h4,h5⟩:=h
 exact⟨na,nc,da,dc,e,h1.kb k,h2,h3.kb k,h4,h5⟩
def recK (k:Nat):RcT:=⟨Z.owner (k % 256),Z.typeK (k / 256 % 256),Z.ttlK k,Z.dataK (Z.typeK (k / 256 % 256)) (k / 65536 % 256)⟩
theorem recK_good (k:Nat):(recK k).Good:=by
 have h:=Z.owner_good (k % 256)
 obtain⟨c,hc⟩:=Z.data_ok (k / 65536 % 256) (k / 256 % 256) (Nat.mod_lt _ (by decide))
 exact⟨h.2.1,Z.owner_small _,h.2.2.1,Z.typeK_lt _,Z.ttlK_lt _,(cn_len hc).2.1⟩
def soa0:RcT:=⟨Z.exA,6,50,Z.dataK 6 1⟩
def ns0:RcT:=⟨Z.exA,2,60,Z.dataK 2 1⟩
theorem exA_in:N.within Z.exA Z.exA=true:=by decide +kernel
theorem soa0_good:soa0.Good:=⟨exA_in,exA_small,by decide,by decide,by decide,by
 obtain⟨c,hc⟩:=Z.data_ok 1 8 (by decide)
 have h:(Z.dataK (Z.typeK 8) 1).length<=8192:=(cn_len hc).2.1
 exact h⟩
theorem ns0_good:ns0.Good:=⟨exA_in,exA_small,by decide,by decide,by decide,by
 obtain⟨c,hc⟩:=Z.data_ok 1 5 (by decide)
 have h:(Z.dataK (Z.typeK 5) 1).length<=8192:=(cn_len hc).2.1
 exact h⟩
theorem OwnL.lit2 {α : Type} {et:TypeId} {sz:Nat} {E:World -> α -> List Value->Prop} (w:World) (base:Nat) (hb:base<=w.heap.size) (A:Array Value) (x y : α) (us vs:List Value) (hA:A=(us++vs).toArray) (hu:us.length=sz) (hv:vs.length=sz) (h1 : ∀ u∈us++vs,u.oneCell'=true) (hx:E (w.alloc (.cells A et)) x us) (hy:E (w.alloc (.cells A et)) y vs) :
 OwnL et sz E (w.alloc (.cells A et)) base (.slice (some ⟨w.heap.size,0,none⟩) 2 2) [x,y]:=by
 subst hA
 have e1 : [us,vs].flatten=us++vs:=by simp
 refine⟨[us,vs],⟨by rw[e1,List.length_append,hu,hv];show _=2*sz;omega,Or.inr ⟨w.heap.size,2,_,rfl,hb,heap_alloc_last w _,Nat.le_refl _,by unfold maxLen;omega,by rw[List.size_toArray,List.length_append];omega,by rw[e1];exact List.take_of_length_le (by rw[List.length_append];show _<=2*sz;omega)⟩⟩,⟨rfl,fun j z zs h2 h3=>?_⟩⟩
 match j with
 | 0 =>
  simp at h2 h3;subst h2;subst h3
  exact⟨hu,fun u hm=>h1 u (List.mem_append_left _ hm),hx⟩
 | 1 =>
  simp at h2 h3;subst h2;subst h3
  exact⟨hv,fun u hm=>h1 u (List.mem_append_right _ hm),hy⟩
 | j+2=>simp at h2
theorem rc_of {W:World} {g:Nat} {v0 v1 v2 v3 v4:Value} (h:RowAt W g 39 #[v0,v1,v2,v3,v4]):W.cell? ⟨g,0,none⟩=some v0/\W.cell? ⟨g,1,none⟩=some v1/\W.cell? ⟨g,2,none⟩=some v2/\W.cell? ⟨g,3,none⟩=some v3/\W.cell? ⟨g,4,none⟩=some v4 :=
 ⟨h.cell 0,h.cell 1,h.cell 2,h.cell 3,h.cell 4⟩
def BegR (w wr:World) (v:Value) (j:Nat):Prop := ∃ rs,Below w.heap.size w wr/\OwnL 39 5 ERc wr w.heap.size v rs/\(∀ x∈rs,x.Good)/\rs.length<=2+j/\(j=0->rs = [soa0,ns0])
set_option maxRecDepth 100000 in
set_option maxHeartbeats 2000000 in
theorem begin_any (l:List Nat) (ao:Option Addr) (len cap:Nat) (w:World) (hl:Hid (l.length=len)) (hs:SlU w ao l) (hlt : ∀ x∈l,x<4294967296) (hm:len<=9223372036854775807) :
 Calls Tryz.prog 68 #[.slice ao len cap] w fun e w' => ∃ v,e = .returned v /\ ∃ j,j<=len/\j<=12/\(j=0->len=0)/\BegR w w' v j:=by
 have HS:=hide hs
 have HLT:=hide hlt
 have hd6:=fun W=>seatData_any 6 1 (by decide) W
 have hd2:=fun W=>seatData_any 2 1 (by decide) W
 obtain⟨D6,hD6⟩ : ∃ D6,D6=Z.dataK 6 1:=⟨_,rfl⟩
 obtain⟨D2,hD2⟩ : ∃ D2,D2=Z.dataK 2 1:=⟨_,rfl⟩
 rw[<- hD6] at hd6
 rw[<- hD2] at hd2
 obtain⟨q6,hq6⟩ : ∃ q6,q6=D6.length:=⟨_,rfl⟩
 obtain⟨q2,hq2⟩ : ∃ q2,q2=D2.length:=⟨_,rfl⟩
 have HD6:=hide hd6
 have HD2:=hide hd2
 have HQ6:=hide hq6
 have HQ2:=hide hq2
 have HE6:=hide hD6
 have HE2:=hide hD2
 have hT1:True:=trivial
 clear hs hlt hd6 hd2 hq6 hq2 hD6 hD2
 go_enter Tryz.func68,Tryz.ntmps68
 go_wp2_with (first
  | (go_at_call 81;have hq:=HB3.out;clear hq;refine (HD2.out w3).mono ?_;rintro e w4 ⟨v4,rfl,hO4,hB4⟩;obtain⟨a4,c4,hv4,hT4,hn4,hc4⟩:=hO4.ty;rw[<- HQ2.out] at hv4 hc4;subst hv4;have HO4:=hide hT4;have HN4:=hide (And.intro hn4 hc4);have HB4:=hide hB4;clear hO4 hT4 hn4 hc4 hB4)
  | (go_at_call 13;have hq:=HB2.out;clear hq;refine (apex_any w2).mono ?_;rintro e w3 ⟨v3,rfl,hO3,hB3⟩;obtain⟨a3,c3,rfl,hT3,hn3,hc3⟩:=hO3.ty;have HO3:=hide hT3;have HN3:=hide hc3;have HB3:=hide hB3;clear hO3 hT3 hn3 hc3 hB3)
  | (go_at_call 81;refine (HD6.out w1).mono ?_;rintro e w2 ⟨v2,rfl,hO2,hB2⟩;obtain⟨a2,c2,hv2,hT2,hn2,hc2⟩:=hO2.ty;rw[<- HQ6.out] at hv2 hc2;subst hv2;have HO2:=hide hT2;have HN2:=hide (And.intro hn2 hc2);have HB2:=hide hB2;clear hO2 hT2 hn2 hc2 hB2)
  | (go_at_call 13;have hq:=hT1;clear hq hT1;refine (apex_any w).mono ?_;rintro e w1 ⟨v1,rfl,hO1,hB1⟩;obtain⟨a1,c1,rfl,hT1',hn1,hc1⟩:=hO1.ty;have HO1:=hide hT1';have HN1:=hide hc1;have HB1:=hide hB1;clear hO1 hT1' hn1 hc1 hB1)
  | fail)
 obtain⟨W0,hW0⟩ : ∃ W0,W0=w4.alloc (.cells #[.slice a1 Z.exA.length c1,.int .u16 6,.int .u16 1,.int .u32 50,.slice a2 q6 c2,.slice a3 Z.exA.length c3,.int .u16 2,.int .u16 1,.int .u32 60,.slice a4 q2 c4] 39):=⟨_,rfl⟩
 rw[<- hW0]
 have hbA:Below w4.heap.size w4 W0:=by rw[hW0];exact (Below.refl _ w4).alloc (Nat.le_refl _) _
 have z1:=HB1.out.size
 have z2:=HB2.out.size
 have z3:=HB3.out.size
 have z4:=HB4.out.size
 have hb14:Below w1.heap.size w1 W0:=(HB2.out.trans (HB3.out.mono z2)).trans ((HB4.out.mono (by omega)).trans (hbA.mono (by omega)))
 have hbW:Below w.heap.size w W0:=HB1.out.trans (hb14.mono z1)
 have hb24:Below w2.heap.size w2 W0:=HB3.out.trans ((HB4.out.mono (by omega)).trans (hbA.mono (by omega)))
 have hb34:Below w3.heap.size w3 W0:=HB4.out.trans (hbA.mono (by omega))
 have hown:OwnL 39 5 ERc W0 w.heap.size (.slice (some ⟨w4.heap.size,0,none⟩) 2 2) [soa0,ns0]:=by
  rw[hW0]
  refine OwnL.lit2 w4 w.heap.size (by omega) _ soa0 ns0 [.slice a1 Z.exA.length c1,.int .u16 6,.int .u16 1,.int .u32 50,.slice a2 q6 c2] [.slice a3 Z.exA.length c3,.int .u16 2,.int .u16 1,.int .u32 60,.slice a4 q2 c4] rfl rfl rfl (by simp[Value.oneCell']) ?_ ?_
  ·rw[<- hW0]
   refine⟨a1,c1,a2,c2,?_,HO1.out.kb (KB.of_below hb14),HN1.out,?_,HN2.out.1,?_⟩
   ·rw[HQ6.out,HE6.out];rfl
   ·have h:=HO2.out.kb (KB.of_below hb24);rw[HE6.out] at h;exact h
   ·have h:=HN2.out.2;rw[HQ6.out,HE6.out] at h;exact h
  ·rw[<- hW0]
   refine⟨a3,c3,a4,c4,?_,HO3.out.kb (KB.of_below hb34),HN3.out,?_,HN4.out.1,?_⟩
   ·rw[HQ2.out,HE2.out];rfl
   ·have h:=HO4.out.kb (KB.of_below hbA);rw[HE2.out] at h;exact h
   ·have h:=HN4.out.2;rw[HQ2.out,HE2.out] at h;exact h
 have HB:=hide (show BegR w W0 (.slice (some ⟨w4.heap.size,0,none⟩) 2 2) 0 from ⟨[soa0,ns0],hbW,hown,fun x hx=>by
  simp at hx
  rcases hx with rfl | rfl
  ·exact soa0_good
  ·exact ns0_good,Nat.le_refl _,fun _=>rfl⟩)
 obtain⟨g4,hg4⟩ : ∃ g4,g4=w4.heap.size:=⟨_,rfl⟩
 rw[<- hg4] at HB ⊢
 clear hW0 hbA z1 z2 z3 z4 hb14 hbW hb24 hb34 hown hg4 HO1 HO2 HO3 HO4 HN1 HN2 HN3 HN4 HB1 HB2 HB3 HB4 HD6 HD2 HQ6 HQ2 HE6 HE2
 go_loopw [3,4] (fun v i wr => ∃ j:Nat,i = .int .i64 (j:Int)/\j<=len/\j<=12/\Hid (BegR w wr v j)) (fun _ i _=>len - (intOf i).toNat)
 case atStart=>exact⟨0,rfl,by omega,by omega,HB⟩
 case round =>
  obtain⟨j,rfl,hj,hj12,HBR0⟩:=hrel
  clear HB
  by_cases hlt:j<len/\j<12
  ·obtain⟨rs,hBR,hO,hG,hrl,_⟩:=HBR0.out
   have hjl:j<l.length:=by have:=hl.out;omega
   obtain⟨b,o,rfl,hblt,hcl⟩:=HS.out (by omega)
   obtain⟨k0,hk0⟩ : ∃ k0,k0=l.getD j 0:=⟨_,rfl⟩
   have hk0b:k0<4294967296:=by
    rw[hk0,List.getD_eq_getElem?_getD,List.getElem?_eq_getElem hjl]
    exact HLT.out _ (List.getElem_mem hjl)
   have y0:wr.cell? ⟨b,o+j,none⟩=some (.int .u32 (k0:Int)):=by
    rw[hk0, <- hcl j hjl];exact World.cell?_of_block (hBR.block b hblt)
   have hrec:=seatRecord_ty k0 hk0b wr
   obtain⟨R,hR⟩ : ∃ R,R=recK k0:=⟨_,rfl⟩
   have hRG:R.Good:=by rw[hR];exact recK_good k0
   obtain⟨nl,hnl⟩ : ∃ nl,nl=R.n.length:=⟨_,rfl⟩
   obtain⟨t,ht⟩ : ∃ t,t=R.t:=⟨_,rfl⟩
   obtain⟨tt,htt⟩ : ∃ tt,tt=R.ttl:=⟨_,rfl⟩
   obtain⟨dl,hdl⟩ : ∃ dl,dl=R.d.length:=⟨_,rfl⟩
   have hrec2:Calls Tryz.prog 43 #[.int .u32 (k0:Int)] wr fun e w' => ∃ na nc da dc,e = .returned (.agg #[.slice na nl nc,.int .u16 (t:Int),.int .u16 1,.int .u32 (tt:Int),.slice da dl dc])/\ERc w' R [.slice na nl nc,.int .u16 (t:Int),.int .u16 1,.int .u32 (tt:Int),.slice da dl dc]/\SlS w' na R.n/\Below wr.heap.size wr w':=by
    refine hrec.mono ?_
    rintro e w' ⟨na,nc,da,dc,rfl,h1,h2,h3,h4,h5,h6⟩
    subst hR;subst hnl;subst ht;subst htt;subst hdl
    exact⟨na,nc,da,dc,rfl,⟨na,nc,da,dc,rfl,h1,h2,h3,h4,h5⟩,h1.1,h6⟩
   have HREC:=hide hrec2
   have HO:=hide hO
   have HG:=hide hG
   have HBR:=hide hBR
   have HRG:=hide hRG
   have HNL:=hide hnl
   have hji:(j:Int)<(len:Int):=by omega
   have hji2:(j:Int)<12:=by omega
   have ht1:t<65536:=by rw[ht];exact hRG.t
   have hnl4:nl<=4:=by rw[hnl];exact hRG.len
   clear hrec hrec2 hO hG hBR hRG hnl ht htt hdl hR hcl hk0 hlt
   go_upto_region 6 with (go_at_call 43;refine HREC.out.mono ?_;rintro e w5 ⟨na,nc,da,dc,rfl,hE5,hS5,hB5⟩;have HE5:=hide hE5;have HS5:=hide hS5;have HB5:=hide hB5;clear hE5 hS5 hB5)
   obtain⟨w6,hw6⟩ : ∃ w6,w6=w5.alloc (.cells #[.slice na nl nc,.int .u16 (t:Int),.int .u16 1,.int .u32 (tt:Int),.slice da dl dc] 39):=⟨_,rfl⟩
   have hb6:Below w5.heap.size w5 w6:=by rw[hw6];exact (Below.refl _ w5).alloc (Nat.le_refl _) _
   obtain⟨gb,hgb⟩ : ∃ gb,gb=w5.heap.size:=⟨_,rfl⟩
   have hr6:RowAt w6 gb 39 #[.slice na nl nc,.int .u16 (t:Int),.int .u16 1,.int .u32 (tt:Int),.slice da dl dc]:=by rw[hw6,hgb];exact RowAt.new w5 _ _
   rw[<- hw6, <- hgb]
   have hb06:Below wr.heap.size wr w6:=HB5.out.trans (hb6.mono HB5.out.size)
   have HB6:=hide hb06
   have HGB:=hide hr6
   have HE6:=hide (HE5.out.kb (KB.of_below hb6))
   have HS6:=hide (HS5.out.below hb6 (Nat.le_refl _))
   have HO6:=hide (HO.out.bel (fun _ _ h=>h.kb (KB.of_below hb06)) hb06)
   have HB06:=hide (HBR.out.trans (hb06.mono HBR.out.size))
   have HGN:=hide hgb
   clear hw6 hb6 hgb hr6 hb06 HE5 HS5
   have k0':w6.cell? ⟨gb,0,none⟩=some (.slice na nl nc):=HGB.out.cell 0
   have k1':w6.cell? ⟨gb,1,none⟩=some (.int .u16 (t:Int)):=HGB.out.cell 1
   have hwild:=rWild_any R.n na nl nc w6 (hide HNL.out.symm) HS6.out
   have HWI:=hide hwild
   clear hwild
   go_cut [6] from 95 (fun ok wc=>(∃ b,ok = .bool b)/\wc=w6)
   case first =>
    by_cases t6:t=6
    ·have t6b:((t:Int) != 6)=false:=by simp[t6]
     clear t6
     go_wp2
     go_meet
     exact⟨⟨_,rfl⟩,rfl⟩
    ·have t6b:((t:Int) != 6)=true:=by simp;omega
     by_cases t43:t=43
     ·have t43b:((t:Int) == 43)=true:=by simp[t43]
      have t2b:((t:Int) == 2)=false:=by simp;omega
      by_cases n1:nl=1
      ·have n1b:((nl:Int) == 1)=true:=by simp[n1]
       clear t6 t43 n1
       go_wp2
       go_meet
       exact⟨⟨_,rfl⟩,rfl⟩
      ·have n1b:((nl:Int) == 1)=false:=by simp;omega
       clear t6 t43 n1
       go_wp2
       go_meet
       exact⟨⟨_,rfl⟩,rfl⟩
     ·have t43b:((t:Int) == 43)=false:=by simp;omega
      by_cases t2:t=2
      ·have t2b:((t:Int) == 2)=true:=by simp[t2]
       clear t6 t43 t2
       go_wp2_with (go_at_call 105;refine HWI.out.mono ?_;rintro e w7 ⟨rfl,hw7⟩;have hw8:=hw7.symm;subst hw8;clear hw7)
       go_meet
       exact⟨⟨_,rfl⟩,rfl⟩
      ·have t2b:((t:Int) == 2)=false:=by simp;omega
       clear t6 t43 t2
       go_wp2
       go_meet
       exact⟨⟨_,rfl⟩,rfl⟩
   case rest =>
    obtain⟨⟨ok0,rfl⟩,hwc⟩:=hcut
    have hwc2:=hwc.symm
    subst hwc2
    clear hwc k0' k1' HWI
    obtain⟨wo,hwo⟩ : ∃ wo,wo=wr:=⟨_,rfl⟩
    subst hwo
    obtain⟨oa,oc,hv3,hon,hoc⟩:=HO6.out.slice
    obtain⟨q,hq⟩ : ∃ q,q=rs.length:=⟨_,rfl⟩
    rw[<- hq] at hv3 hoc
    subst hv3
    have HQ:=hide hq
    have hq14:q<=14:=by rw[hq];omega
    clear hq
    go_wp2
    go_loopw [6,7] (fun ok i wr => ∃ (b:Bool) (k:Nat),ok = .bool b/\i = .int .i64 (k:Int)/\k<=q/\Below w6.heap.size w6 wr) (fun _ i _=>q - (intOf i).toNat)
    case atStart=>exact⟨ok0,0,rfl,rfl,by omega,Below.refl _ _⟩
    case round =>
     obtain⟨bo,k,rfl,rfl,hk,hBi⟩:=hrel
     have HBI:=hide hBi
     clear hBi
     by_cases hkq:k<q/\bo=true
     ·obtain⟨hkq,rfl⟩:=hkq
      have hki:(k:Int)<(q:Int):=by omega
      have hkr:k<rs.length:=by rw[<- HQ.out];exact hkq
      obtain⟨x,hx⟩ : ∃ x,rs[k]?=some x:=⟨_,List.getElem?_eq_getElem hkr⟩
      have hxg:=HG.out x (List.mem_of_getElem? hx)
      obtain⟨g,rfl,hgb0,hgl,_,hel⟩:=HO6.out.get (by omega)
      obtain⟨us,hus,⟨xa,xc,xda,xdc,rfl,hxT,hxc,_⟩,hcells⟩:=hel k x hx
      obtain⟨xl,hxl⟩ : ∃ xl,xl=x.n.length:=⟨_,rfl⟩
      obtain⟨xt,hxt⟩ : ∃ xt,xt=x.t:=⟨_,rfl⟩
      rw[<- hxl, <- hxt] at hcells
      have HC0:Hid (∀ W,Below wr.heap.size wr W->W.cell? ⟨g,k*5,none⟩=some (.slice xa xl xc)):=hide fun W hW=>(World.cell?_of_block ((HBI.out.trans (hW.mono HBI.out.size)).block g hgl)).trans (hcells 0 (by omega))
      have HC1:Hid (∀ W,Below wr.heap.size wr W->W.cell? ⟨g,k*5+1,none⟩=some (.int .u16 (xt:Int))):=hide fun W hW=>(World.cell?_of_block ((HBI.out.trans (hW.mono HBI.out.size)).block g hgl)).trans (hcells 1 (by omega))
      obtain⟨V,hV⟩ : ∃ V,V=N.same x.n R.n:=⟨_,rfl⟩
      have HSA:Hid (∀ W,Below wr.heap.size wr W->Calls Tryz.prog 58 #[.slice xa xl xc,.slice na nl nc] W fun e w'=>e = .returned (.bool V)/\Below W.heap.size W w'):=hide fun W hW=>by
       have hb:=HBI.out.trans (hW.mono HBI.out.size)
       have h:=rSame_any x.n R.n xa na xl nl xc nc W (hide hxl.symm) (hide HNL.out.symm) (hxT.1.below hb (Nat.le_refl _)) (HS6.out.below hb (Nat.le_refl _)) (by have:=hxg.len;omega) (Sane.small hxg.small) (Sane.small HRG.out.small)
       rw[<- hV] at h
       exact h
      have HGW:=hide (HGB.out.below HBI.out HGB.out.lt)
      clear hx hxl hxt hcells hel hxT hxc hxg hus hV hgl hgb0
      go_wp2
      have SAll:Hid (∀ W,Below wr.heap.size wr W->W.cell? ⟨g,k*5,none⟩=some (.slice xa xl xc)/\W.cell? ⟨gb,0,none⟩=some (.slice na nl nc)):=hide fun W hW=>⟨HC0.out W hW,(HGW.out.below hW HGW.out.lt).cell 0⟩
      refine wp_region_X (S:=fun w'=>w'.cell? ⟨g,k*5,none⟩=some (.slice xa xl xc)/\w'.cell? ⟨gb,0,none⟩=some (.slice na nl nc)) (jS:=1000) (by kernel_rfl) ?_
      have BA:Hid (Below wr.heap.size wr wr.drew):=hide ((Below.refl _ wr).drew)
      have SA:=hide (SAll.out _ BA.out)
      generalize wr.drew=w1 at BA SA ⊢
      refine tk gt0 SA.out ?_
      refine tk gt1 SA.out ?_
      refine tk gt2 SA.out ?_
      refine tk gt3 SA.out ?_
      refine tk gt4 SA.out ?_
      refine tk gt5 SA.out ?_
      refine tk gt6 SA.out ?_
      refine rdy gt7 (fun K hKK=>?_)
      refine step_fng (by rfl) _ _ (by go_simp) (HSA.out _ BA.out) (by rintro e w' ⟨rfl,_⟩;exact⟨_,rfl⟩) ?_
      rintro _ w2 ⟨he,hb⟩
      cases he
      have B2:=hide (BA.out.trans (hb.mono BA.out.size))
      have SB:=hide (SAll.out _ B2.out)
      refine kk hKK (Or.inr SB.out) ?_
      clear hKK hb SA
      refine tk gt8 SB.out ?_
      refine wpAnyX_done (by kernel_rfl) ?_ _
      have k1:w2.cell? ⟨g,k*5+1,none⟩=some (.int .u16 (xt:Int)):=HC1.out w2 B2.out
      have k2:w2.cell? ⟨gb,1,none⟩=some (.int .u16 (t:Int)):=(HGW.out.below B2.out HGW.out.lt).cell 1
      clear SB
      cases V with
      | false =>
       go_wp2
       go_roundw
       case rel=>exact⟨_,k+1,rfl,by go_num,by omega,HBI.out.trans (B2.out.mono HBI.out.size)⟩
       case measure=>simp[intOf];omega
      | true =>
       by_cases hx5:xt=5
       ·have hx5b:((xt:Int) == 5)=true:=by simp[hx5]
        clear hx5
        go_wp2
        go_roundw
        case rel=>exact⟨_,k+1,rfl,by go_num,by omega,HBI.out.trans (B2.out.mono HBI.out.size)⟩
        case measure=>simp[intOf];omega
       ·have hx5b:((xt:Int) == 5)=false:=by simp;omega
        clear hx5
        by_cases ht5:t=5
        ·have ht5b:((t:Int) == 5)=true:=by simp[ht5]
         clear ht5
         go_wp2
         go_roundw
         case rel=>exact⟨_,k+1,rfl,by go_num,by omega,HBI.out.trans (B2.out.mono HBI.out.size)⟩
         case measure=>simp[intOf];omega
        ·have ht5b:((t:Int) == 5)=false:=by simp;omega
         clear ht5
         go_wp2
         go_roundw
         case rel=>exact⟨_,k+1,rfl,by go_num,by omega,HBI.out.trans (B2.out.mono HBI.out.size)⟩
         case measure=>simp[intOf];omega
     ·have hbk:bo=false\/(bo=true/\k=q):=by
       cases bo with
       | false=>exact Or.inl rfl
       | true=>right;exact⟨rfl,by have : ¬ k<q:=fun h=>hkq ⟨h,rfl⟩;omega⟩
      clear hkq
      have HBJ:=hide (HB06.out.trans (HBI.out.mono HB06.out.size))
      have HO7:=hide (HO6.out.bel (fun _ _ h=>h.kb (KB.of_below HBI.out)) HBI.out)
      have HE7:=hide (HE6.out.kb (KB.of_below HBI.out))
      have hr7:=HGB.out.below HBI.out HGB.out.lt
      have HR7:=hide hr7
      obtain⟨m0,m1,m2,m3,m4⟩:=rc_of hr7
      clear hr7
      rcases hbk with rfl | ⟨rfl,rfl⟩
      ·by_cases hkq:k<q
       ·have hki:(k:Int)<(q:Int):=by omega
        go_wp2
        go_roundw
        case rel=>exact⟨j+1,by go_num,by omega,by omega,hide ⟨rs,HBJ.out,HO7.out,HG.out,by omega,fun h=>absurd h (by omega)⟩⟩
        case measure=>simp[intOf];omega
       ·have hki : ¬ ((k:Int)<(q:Int)):=by omega
        go_wp2
        go_roundw
        case rel=>exact⟨j+1,by go_num,by omega,by omega,hide ⟨rs,HBJ.out,HO7.out,HG.out,by omega,fun h=>absurd h (by omega)⟩⟩
        case measure=>simp[intOf];omega
      ·have hki : ¬ ((k:Int)<(k:Int)):=by omega
       go_wp2_with (first
        | (at_builtin;go_loud (refine wpList_appL rfl (.tmp 90) (.tmp 92) 31 rfl Tryz.underlying31 _ 56 (info_parts infoRc) rfl (by decide) (by decide) (by decide) w.heap.size _ rs rfl (HO7.out.bel (fun _ _ h=>h.kb (KB.alloc _ _)) ((Below.refl _ wr).alloc (Nat.le_refl _) _)) ⟨wr.heap.size,0,none⟩ 1 R [.slice na nl nc,.int .u16 (t:Int),.int .u16 1,.int .u32 (tt:Int),.slice da dl dc] rfl (one_cell _ _ #[.slice na nl nc,.int .u16 (t:Int),.int .u16 1,.int .u32 (tt:Int),.slice da dl dc] 39 (RowAt.new wr _ _)) rfl (by simp[Value.oneCell']) (HE7.out.kb (KB.alloc _ _)) (fun _ _ _ k h=>h.kb k) (by have:=HQ.out;omega) (by have:=HBJ.out.size;simp;omega) ?_);intro v8 w8 hO8 hG8 hK8 hB8)
        | fail)
       go_roundw
       case rel =>
        refine⟨j+1,by go_num,by omega,by omega,hide ⟨rs ++ [R],(HBJ.out.alloc HBJ.out.size _).trans hB8,hO8,fun x hx=>?_,by rw[List.length_append,List.length_singleton];omega,fun h=>absurd h (by omega)⟩⟩
        rcases List.mem_append.1 hx with hx | hx
        ·exact HG.out x hx
        ·simp at hx;rw[hx];exact HRG.out
       case measure=>simp[intOf];omega
  ·have hend:j=len\/(j<len/\j=12):=by omega
   rcases hend with rfl | ⟨h1,rfl⟩
   ·clear hlt
    go_wp2
    go_ret
    exact⟨_,rfl,j,Nat.le_refl _,hj12,id,HBR0.out⟩
   ·have h1i:(12:Int)<(len:Int):=by omega
    clear hlt
    go_wp2
    go_ret
    exact⟨_,rfl,12,by omega,Nat.le_refl _,fun h=>absurd h (by omega),HBR0.out⟩
open Go.RowKit
structure Duo (B:Nat) (w:World) (Zb base m:Nat) (A:List (List UInt8)) (L:List Z.R) (K:Nat):Prop where
 z:ZLive (fun i=>i<B) w Zb A L K
 r:RZAt w base m A L
 bm:B<=m
 bb:B<=base
 bs:base<=w.heap.size
theorem RZAt.zk {X:Nat->Prop} {w w':World} {base m:Nat} {A:List (List UInt8)} {L:List Z.R} (h:RZAt w base m A L) (k:ZKp X w w'):RZAt w' base m A L:=by
 obtain⟨aa,ac,a,c,h1,h2,h3,h4⟩:=h.row
 exact { h with row:=⟨aa,ac,a,c,k.row h1 (by decide) (by decide),k.ss _ _ h2,h3,h4.kx k.kb (fun g cur _ hg _=>k.rows g cur _ _ hg (by decide) (by decide))⟩ }
theorem ZLive.rm {X:Nat->Prop} {w w':World} {Zb base m:Nat} {A A':List (List UInt8)} {L L':List Z.R} {K:Nat} (h:ZLive X w Zb A L K) (hr:RZAt w base m A' L') (k:RM base m w w'):ZLive X w' Zb A L K:=by
 obtain⟨ρ,G,C,Zx,hX,hth⟩:=h
 obtain⟨aa,ac,a,c,h1,_⟩:=hr.row
 have hm:w.heap[m]?=_:=h1
 obtain⟨ao,cap,hz,_,_⟩:=Zx.row
 have hz0:w.heap[Zb]?=_:=hz
 refine⟨ρ,G,C,Zx.keep ?_ ?_ k.sl k.ss,fun i hi=>⟨Nat.lt_of_lt_of_le (hX i hi).1 k.size,(hX i hi).2⟩,hth⟩
 ·refine k.keep Zb hz.lt (fun e=>?_) (Or.inr fun cur fr e=>?_)
  ·rw[e,hm] at hz0;injection hz0 with hz0;injection hz0 with _ hz0 _;exact absurd hz0 (by decide)
  ·rw[hz0] at e;injection e with e;injection e with _ e _;exact absurd e (by decide)
 ·intro i hi
  have hk:=Zx.tree.kind i hi
  refine k.keep i hk.lt (fun e=>?_) (Or.inr fun cur fr e=>?_)
  ·rcases hk with⟨es,q,hb⟩ | ⟨p,q,hb⟩
   ·rw[e,hm] at hb;cases hb
   ·rw[e,hm] at hb;injection hb with hb;injection hb with _ hb _;exact absurd hb (by decide)
  ·rcases hk with⟨es,q,hb⟩ | ⟨p,q,hb⟩
   ·rw[hb] at e;cases e
   ·rw[hb] at e;injection e with e;injection e with _ e _;exact absurd e (by decide)
theorem RM.below {base m B:Nat} {w w':World} (k:RM base m w w') (h1:B<=m) (h2:B<=base) (h3:base<=w.heap.size):Below B w w' :=
 ⟨k.os,k.tape,k.output,k.size,fun i hi=>k.keep i (by omega) (by omega) (Or.inl (by omega))⟩
theorem Duo.le {B:Nat} {w:World} {Zb base m:Nat} {A:List (List UInt8)} {L:List Z.R} {K:Nat} (D:Duo B w Zb base m A L K):B<=w.heap.size:=Nat.le_trans D.bb D.bs
theorem Duo.mono {B:Nat} {w:World} {Zb base m:Nat} {A:List (List UInt8)} {L:List Z.R} {K K':Nat} (D:Duo B w Zb base m A L K) (hk:K<=K'):Duo B w Zb base m A L K':=⟨D.z.mono hk,D.r,D.bm,D.bb,D.bs⟩
theorem Duo.step {B:Nat} {w w1 w2:World} {Zb base m:Nat} {A:List (List UInt8)} {L L':List Z.R} {K K':Nat} (D:Duo B w Zb base m A L K) (k1:ZKp (fun i=>i<B) w w1) (z1:ZLive (fun i=>i<B) w1 Zb A L' K') (r2:RZAt w2 base m A L') (k2:RM base m w1 w2):Duo B w2 Zb base m A L' K'/\Below B w w2:=by
 have hs1:base<=w1.heap.size:=Nat.le_trans D.bs k1.size
 have hb1:Below B w w1:=k1.below (fun i hi=>hi) D.le
 have hb2:Below B w1 w2:=k2.below D.bm D.bb hs1
 exact⟨⟨z1.rm (D.r.zk k1) k2,r2,D.bm,D.bb,Nat.le_trans hs1 k2.size⟩,hb1.trans hb2⟩
open Go.RowKit
theorem set_off {w:World} {g:Nat} {et:TypeId} {cur:Array Value} (hr:RowAt w g et cur) (q:Nat) (v:Value) (i:Nat) (hi:i≠q):(w.setCell ⟨g,q,none⟩ v).cell? ⟨g,i,none⟩=w.cell? ⟨g,i,none⟩:=by
 rw[(hr.set q v).cell,hr.cell,Array.getElem?_setIfInBounds_ne (Ne.symm hi)]
theorem slL_cell {w:World} {g q:Nat} {cur:Array Value} {u:Int} (hr:RowAt w g 39 cur) (hc:w.cell? ⟨g,q,none⟩=some (.int .u32 u)) (v:Value) {ao:Option Addr} {l:List UInt8} (hs:SlL w ao l):SlL (w.setCell ⟨g,q,none⟩ v) ao l:=fun hn=>by
 obtain⟨b1,o,e,hlt,h⟩:=hs hn
 refine⟨b1,o,e,by rw[World.size_setCell];exact hlt,fun i hi=>?_⟩
 by_cases hb:b1=g
 ·subst hb
  by_cases hq:o+i=q
  ·have:=h i hi
   rw[hq,hc] at this;cases this
  ·rw[set_off hr q v _ hq];exact h i hi
 ·rw[<- h i hi];exact World.cell?_of_block (heap_setCell_other _ _ _ _ hb)
theorem slS_cell {w:World} {g q:Nat} {cur:Array Value} {u:Int} (hr:RowAt w g 39 cur) (hc:w.cell? ⟨g,q,none⟩=some (.int .u32 u)) (v:Value) {ao:Option Addr} {l:List (List UInt8)} (hs:SlS w ao l):SlS (w.setCell ⟨g,q,none⟩ v) ao l:=fun hn=>by
 obtain⟨b1,o,e,hlt,h⟩:=hs hn
 refine⟨b1,o,e,by rw[World.size_setCell];exact hlt,fun i hi=>?_⟩
 by_cases hb:b1=g
 ·subst hb
  by_cases hq:o+i=q
  ·have:=h i hi
   rw[hq,hc] at this;cases this
  ·rw[set_off hr q v _ hq];exact h i hi
 ·rw[<- h i hi];exact World.cell?_of_block (heap_setCell_other _ _ _ _ hb)
theorem RM.rc {base m:Nat} {w:World} {g q:Nat} {cur:Array Value} {u:Int} (hr:RowAt w g 39 cur) (hg:base<=g) (hc:w.cell? ⟨g,q,none⟩=some (.int .u32 u)) (v:Value):RM base m w (w.setCell ⟨g,q,none⟩ v) :=
 ⟨rfl,rfl,rfl,by simp,fun i _ _ h2=>heap_setCell_other _ _ _ _ (fun e=>by
  subst e
  rcases h2 with h2 | h2
  ·omega
  ·exact h2 _ _ hr),fun _ _ hs=>slL_cell hr hc v hs,fun _ _ hs=>slS_cell hr hc v hs⟩
theorem RL.row {w:World} {base c g:Nat} {L:List Z.R} (h:RL w base (some ⟨g,0,none⟩) c L) (hn:0<L.length) : ∃ cur,RowAt w g 39 cur/\base<=g:=by
 obtain⟨g',cur,e,h1,h2,_⟩:=h.2.2 hn
 injection e with e;injection e with e _ _;subst e
 exact⟨cur,h2,h1⟩
theorem RL.ttl {w:World} {base c g:Nat} {L:List Z.R} (h:RL w base (some ⟨g,0,none⟩) c L) {i:Nat} {x:Z.R} (hx:L[i]?=some x) (v:Nat):RL (w.setCell ⟨g,i*5+3,none⟩ (.int .u32 (v:Int))) base (some ⟨g,0,none⟩) c (L.set i { x with ttl:=v }):=by
 have hi:i<L.length:=(List.getElem?_eq_some_iff.1 hx).1
 obtain⟨g',cur,e,h1,h2,h3⟩:=h.2.2 (by omega)
 injection e with e;injection e with e _ _;subst e
 have hr:RowAt w g 39 cur:=h2
 have hk:KB w (w.setCell ⟨g,i*5+3,none⟩ (.int .u32 (v:Int))):=KB.setCell hr (by decide) _ _
 refine⟨by rw[List.length_set];exact h.1,(fun h=>by cases h),fun _=>⟨g,_,rfl,h1,hr.set (i*5+3) (.int .u32 (v:Int)),fun j y hy=>?_⟩⟩
 by_cases e:j=i
 ·subst e
  rw[List.getElem?_set_self hi] at hy;injection hy with hy;subst hy
  obtain⟨us,k1,k2,⟨na,nc,da,dc,rfl,k3,k5,k6,k7,k8,k9⟩,k4⟩:=h3 j x hx
  refine⟨[.slice na x.p.length nc,.int .u16 (x.t:Int),.int .u16 1,.int .u32 (v:Int),.slice da x.d.length dc],rfl,by simp[Value.oneCell'],⟨na,nc,da,dc,rfl,k3.kb hk,k5,k6,k7.kb hk,k8,k9⟩,fun t ht=>?_⟩
  have h4:=k4 t ht
  by_cases et:t=3
  ·subst et
   rw[hr.cell] at h4
   have hlt:j*5+3<cur.size:=by
    have:cur[j*5+3]?=some (.int .u32 (x.ttl:Int)):=h4
    exact (Array.getElem?_eq_some_iff.1 this).1
   rw[(hr.set (j*5+3) (.int .u32 (v:Int))).cell,Array.getElem?_setIfInBounds_self_of_lt hlt]
   rfl
  ·rw[set_off hr _ _ _ (by omega),h4]
   match t,ht,et with
   | 0,_,_=>rfl
   | 1,_,_=>rfl
   | 2,_,_=>rfl
   | 4,_,_=>rfl
 ·rw[List.getElem?_set_ne (Ne.symm e)] at hy
  obtain⟨us,k1,k2,k3,k4⟩:=h3 j y hy
  refine⟨us,k1,k2,k3.kb hk,fun t ht=>?_⟩
  rw[set_off hr _ _ _ (by omega)]
  exact k4 t ht
theorem run_append_clone {w:World} (ty:TypeId) (ao:Option Addr) (m c:Nat) (l:List UInt8) (hl:l.length=m) (hs:SlL w ao l) (hn:ao=none->c=0) (hmc:m<=c) (hm:m<=1000000) :
 ∃ v' w',(Builtin.append_ #[37,37] ty #[.slice none 0 0,.slice ao m c]).run Tryz.prog w = .ok v' w'/\OwnB w' w.heap.size v' l/\Below w.heap.size w w':=by
 cases ao with
 | none =>
  have hc:=hn rfl
  obtain rfl:m=0:=by omega
  have e:l = []:=List.eq_nil_of_length_eq_zero hl
  subst e
  obtain⟨i0,hi,hz0,hz1,hz2⟩:=info_parts infoB
  refine⟨.slice none 0 0,w,?_,OwnB.nil _ _,Below.refl _ _⟩
  simp[Builtin.append_,run_underlying Tryz.underlying37,sizeOf,typeInfo,hi,Builtin.lenOf,Builtin.firstCells]
 | some ad =>
  obtain⟨v',w',h1,h2,h3⟩:=run_append_B ty (OwnB.nil w w.heap.size) ad m c l hl hs (by simp;omega) (Nat.le_refl _)
  have h0:w.ownsRow w.heap.size 5 1 (.slice none 0 0) ([]:List UInt8).length (vb []):=OwnB.nil w w.heap.size
  exact⟨v',w',h1,by simpa using h2,owns_below h0 h3 (Nat.le_refl _)⟩
theorem step_append_clone {ops:Array Oper} {o:Oper} {a:Act} {w:World} {K:Act->World->Prop} {Q:Exit->Act->World->Prop} {F:Prop} (hgd:o.guard=none) (s x:Operand)
 (ho:o.op = .call { callee := .builtin .append,args := #[s,x],argTypes := #[37,37] }) (ao:Option Addr) (m c:Nat) (l:List UInt8) (hs:a.eval s = .slice none 0 0) (hx:a.eval x = .slice ao m c) (hl:l.length=m) (hsl:SlL w ao l) (hn:ao=none->c=0) (hmc:m<=c) (hm:m<=1000000)
 (h : ∀ v' w',OwnB w' w.heap.size v' l->Below w.heap.size w w'->K (a.put o.dst v') w'):if Region.wanted o (yielded ops a.tmps)=true then Oper.wp Tryz.prog o a w K Q else F:=by
 have hw:Region.wanted o (yielded ops a.tmps)=true:=by simp[Region.wanted,hgd]
 rw[if_pos hw]
 obtain⟨v',w',hr,k2,k3⟩:=run_append_clone o.type ao m c l hl hsl hn hmc hm
 unfold Oper.wp execOp
 simp only[ho,resolve,invoke,builtin,Sem.run_bind,Sem.run_pure,Result.andThen_ok,List.map_toArray,List.map_cons,List.map_nil,hs,hx,hr]
 exact h v' w' k2 k3
theorem run_append_one {w:World} (ty:TypeId) {g0:Nat} {r:Z.R} {us:List Value} {a:Option Addr} {m c:Nat} {L:List Z.R} {vss:List (List Value)} (h1:SegR w (some ⟨g0,0,none⟩) [r] [us]) (h2:SegR w a L vss) (hm:L.length=m) (hbd:m<=100000) :
 ∃ a' c' w' vss',(Builtin.append_ #[31,31] ty #[.slice (some ⟨g0,0,none⟩) 1 1,.slice a m c]).run Tryz.prog w = .ok (.slice a' (m+1) c') w'/\SegR w' a' ([r]++L) vss'/\Below w.heap.size w w':=by
 by_cases h0:m=0
 ·subst h0
  have e:L = []:=List.eq_nil_of_length_eq_zero hm
  subst e
  exact⟨some ⟨g0,0,none⟩,1,w, [us],run_append_same _ _ _ _ _ _,h1,Below.refl _ _⟩
 ·obtain⟨v',w',hr,hO,hb⟩:=run_append_newR (L1 := [r]) (L2:=L) ty 1 1 m c h1 rfl (fun h=>by cases h) h2 hm (by omega) (by omega) (by omega)
  obtain⟨a',c',rfl,_,_⟩:=hO.slice
  have e:([r]++L).length=m+1:=by rw[List.length_append,hm];simp;omega
  obtain⟨vss',hv⟩:=(RL.of_own hO).seg
  exact⟨a',c',w',vss',by rw[hr,e],hv,hb⟩
theorem step_append_one {ops:Array Oper} {o:Oper} {a:Act} {w:World} {K:Act->World->Prop} {Q:Exit->Act->World->Prop} {F:Prop} (hgd:o.guard=none) (s x:Operand)
 (ho:o.op = .call { callee := .builtin .append,args := #[s,x],argTypes := #[31,31] }) {g0:Nat} {r:Z.R} {us:List Value} {a2:Option Addr} {m c:Nat} {L:List Z.R} {vss:List (List Value)} (hs:a.eval s = .slice (some ⟨g0,0,none⟩) 1 1) (hx:a.eval x = .slice a2 m c) (h1:SegR w (some ⟨g0,0,none⟩) [r] [us]) (h2:SegR w a2 L vss) (hm:L.length=m) (hbd:m<=100000)
 (h : ∀ a' c' w' vss',SegR w' a' ([r]++L) vss'->Below w.heap.size w w'->K (a.put o.dst (.slice a' (m+1) c')) w'):if Region.wanted o (yielded ops a.tmps)=true then Oper.wp Tryz.prog o a w K Q else F:=by
 have hw:Region.wanted o (yielded ops a.tmps)=true:=by simp[Region.wanted,hgd]
 rw[if_pos hw]
 obtain⟨a',c',w',vss',hr,k2,k3⟩:=run_append_one (c:=c) o.type h1 h2 hm hbd
 unfold Oper.wp execOp
 simp only[ho,resolve,invoke,builtin,Sem.run_bind,Sem.run_pure,Result.andThen_ok,List.map_toArray,List.map_cons,List.map_nil,hs,hx,hr]
 exact h a' c' w' vss' k2 k3
open Go.RowKit
theorem rslice_any (a:Option Addr) (L C A:Nat) (hAC:A<=C) (hn:a=none->C=0) (w:World):(Instr.sliceAt 31 (.slice a L C) none (some (.int .i64 (A:Int))) (some (.int .i64 (A:Int)))).run Tryz.prog w = .ok (.slice a A A) w:=by
 have h1:(A:Int)<=(C:Int):=by omega
 rw[run_sliceAt_slice w 31 _ _ _ _ Tryz.underlying31]
 obtain⟨i0,hi,hz0,hz1,hz2⟩:=info_parts infoRc
 cases a with
 | none =>
  have h2:=hn rfl
  subst h2
  obtain rfl:A=0:=by omega
  simp[Instr.slice,run_underlying Tryz.underlying31,Instr.sliceBounds,run_sliceBound,sizeOf,typeInfo,hi]
 | some ad=>simp[Instr.slice,run_underlying Tryz.underlying31,Instr.sliceBounds,run_sliceBound,h1,Addr.add,sizeOf,typeInfo,hi]
theorem rslice_rest (a:Option Addr) (L C A:Nat) (hAL:A<=L) (hLC:L<=C) (hn:a=none->C=0) : ∃ a',(∀ w,(Instr.sliceAt 31 (.slice a L C) (some (.int .i64 (A:Int))) none none).run Tryz.prog w = .ok (.slice a' (L - A) (C - A)) w)/\(∀ g,a=some ⟨g,0,none⟩->A<L->a'=some ⟨g,A*5,none⟩):=by
 have h1:(A:Int)<=(L:Int):=by omega
 obtain⟨i0,hi,hz0,hz1,hz2⟩:=info_parts infoRc
 cases a with
 | none =>
  have h3:=hn rfl
  subst h3
  obtain rfl:L=0:=by omega
  obtain rfl:A=0:=by omega
  refine⟨none,fun w=>?_,fun g h=>by cases h⟩
  rw[run_sliceAt_slice w 31 _ _ _ _ Tryz.underlying31]
  simp[Instr.slice,run_underlying Tryz.underlying31,Instr.sliceBounds,run_sliceBound,sizeOf,typeInfo,hi]
 | some ad =>
  by_cases hCA:C=A
  ·refine⟨some ad,fun w=>?_,fun g _ h=>by omega⟩
   rw[run_sliceAt_slice w 31 _ _ _ _ Tryz.underlying31]
   subst hCA
   obtain rfl:L=C:=by omega
   simp[Instr.slice,run_underlying Tryz.underlying31,Instr.sliceBounds,run_sliceBound,Addr.add,sizeOf,typeInfo,hi]
  ·refine⟨some (ad.add (A*5)),fun w=>?_,fun g e _=>by injection e with e;subst e;rw[Addr.add_mid,Nat.zero_add]⟩
   rw[run_sliceAt_slice w 31 _ _ _ _ Tryz.underlying31]
   simp[Instr.slice,run_underlying Tryz.underlying31,Instr.sliceBounds,run_sliceBound,h1,sizeOf,typeInfo,hi,hz1,hCA]
theorem RL.segdrop {w:World} {base c:Nat} {a a':Option Addr} {L:List Z.R} (h:RL w base a c L) (j:Nat) (ha : ∀ g,a=some ⟨g,0,none⟩->j<L.length->a'=some ⟨g,j*5,none⟩) : ∃ vss,SegR w a' (L.drop j) vss:=by
 by_cases hj:j<L.length
 ·obtain⟨g,cur,e,_⟩:=h.2.2 (by omega)
  subst e
  obtain⟨vss,hv⟩:=h.seg
  exact⟨_,hv.drop j (fun _=>by rw[ha g rfl hj,Nat.zero_add])⟩
 ·rw[List.drop_of_length_le (by omega)]
  exact⟨[],SegR.nil _ _⟩
theorem set_same {α : Type} {l:List α} {j:Nat} {x : α} (h:l[j]?=some x):l.set j x=l:=by
 obtain⟨hj,e⟩:=List.getElem?_eq_some_iff.1 h
 subst e
 exact List.set_getElem_self hj
end Go.Proofs.YtmbcegljmhcdeaaGreat
namespace Go.Proofs.YtmbcegljmhcdeaaGreat
open Go.RowKit
set_option maxRecDepth 5000
namespace Z
set_option maxRecDepth 5000 in
theorem canS_of {t:Nat} {d c:List UInt8} (h:cn t d=some c):canS t d=c:=by unfold canS;rw[h];rfl
end Z
end Go.Proofs.YtmbcegljmhcdeaaGreat
