/- The reference's Canon (texts of stage 5, at this seat). -/
import Derived.Test.YtmbcegljmhcdeaaGreatRefH
import Derived.Test.YtmbcegljmhcdeaaGreatRefK
import Derived.Test.YtmbcegljmhcdeaaGreatAsG
import Derived.Deep.RegionHeld3
namespace Go.Proofs.YtmbcegljmhcdeaaGreat
set_option maxRecDepth 5000
open Go.RowKit
namespace D
def ok (t:Nat) (b:List UInt8):Bool:=(can t b).any fun p=>decide (p.2 = [])
theorem code_ok {t:Nat} {b:List UInt8} (h:b.length<=8192):codeOf (full b (can t b))=if ok t b then 0 else 50:=by
 unfold ok full
 rw[if_neg (by omega)]
 cases can t b with
 | none=>rfl
 | some p=>by_cases hp:p.2 = [] <;> simp[hp,codeOf]
theorem code_map {α β : Type} (l:List UInt8) (o:Option (α × List UInt8)) (f : α -> β):codeOf (full l (o.map fun p=>(f p.1,p.2)))=codeOf (full l o):=by
 unfold full
 split
 ·rfl
 ·cases o with
  | none=>rfl
  | some p=>by_cases hp:p.2 = [] <;> simp[hp,codeOf]
theorem by_is (k:Nat) (b:List UInt8):((by_ k b).any fun p=>decide (p.2 = []))=decide (b.length=k):=by
 unfold by_
 split
 ·rename_i h;simp;omega
 ·rename_i h
  simp only[Option.any_some,List.drop_eq_nil_iff,decide_eq_decide]
  omega
theorem ok_1 (b:List UInt8):ok 1 b=decide (b.length=4):=by_is 4 b
theorem ok_28 (b:List UInt8):ok 28 b=decide (b.length=16):=by_is 16 b
theorem small_is (b:List UInt8):((small b).any fun p=>decide (p.2 = []))=wholeB b:=by
 unfold small wholeB
 cases nm b <;> rfl
theorem ok_2 (b:List UInt8):ok 2 b=wholeB b:=small_is b
theorem ok_5 (b:List UInt8):ok 5 b=wholeB b:=small_is b
theorem whole_nil:wholeB []=false:=by simp[wholeB,nm,N.opn]
theorem ok_15 (b:List UInt8):ok 15 b=(decide (2<b.length) && wholeB (b.drop 2)):=by
 have e:can 15 b=(by_ 2 b).bind fun p=>(small p.2).map fun q=>(p.1++q.1,q.2):=rfl
 unfold ok
 rw[e]
 unfold by_
 split
 ·rename_i h;simp;intro;omega
 ·rename_i h
  rw[<- small_is]
  simp only[Option.bind_some]
  have g:(((small (b.drop 2)).map fun q=>(b.take 2++q.1,q.2)).any fun p=>decide (p.2 = []))=(small (b.drop 2)).any fun p=>decide (p.2 = []):=by cases small (b.drop 2) <;> rfl
  rw[g]
  by_cases h2:2<b.length
  ·simp[h2]
  ·have:b.drop 2 = []:=List.drop_eq_nil_of_le (by omega)
   rw[this,small_is,whole_nil];simp
def tz (l:List UInt8):Bool:=decide (l = []) || tok l
theorem tz_next (b:List UInt8) (j:Nat) (h:j<b.length) :
 (j+1+(b.getD j 0).toNat<=b.length/\tz (b.drop j)=tz (b.drop (j+1+(b.getD j 0).toNat)))\/(b.length<j+1+(b.getD j 0).toNat/\tz (b.drop j)=false):=by
 have hd:b.drop j=b.getD j 0::b.drop (j+1):=by
  rw[List.drop_eq_getElem_cons h]
  congr 1
  simp[List.getD_eq_getElem?_getD,h]
 generalize b.getD j 0=k at hd
 have hr:(b.drop (j+1)).length=b.length - (j+1):=List.length_drop
 rw[hd]
 rcases Nat.lt_or_ge (b.drop (j+1)).length k.toNat with h1 | h1
 ·right
  refine⟨by omega,?_⟩
  unfold tz
  rw[tok,if_pos h1];simp
 ·left
  refine⟨by omega,?_⟩
  have e:b.drop (j+1+k.toNat)=(b.drop (j+1)).drop k.toNat:=by rw[List.drop_drop]
  rw[e]
  unfold tz
  rw[tok,if_neg (by omega)]
  split
  ·rename_i h2
   have:(b.drop (j+1)).drop k.toNat = []:=List.drop_eq_nil_of_le (by omega)
   rw[this];simp
  ·rename_i h2
   have:(b.drop (j+1)).drop k.toNat ≠ []:=fun q=>by rw[List.drop_eq_nil_iff] at q;omega
   rw[decide_eq_false this]
   simp
theorem tz_tok (b:List UInt8) (h:b ≠ []):tok b=tz b:=by unfold tz;simp[h]
theorem ok_16 (b:List UInt8):ok 16 b=tok b:=by
 have e:can 16 b=txt b:=rfl
 unfold ok
 rw[e]
 unfold txt
 split
 ·rename_i h;rw[h];rfl
 ·rename_i h;simp at h;rw[h];rfl
theorem ok_43 (b:List UInt8):ok 43 b=decide (5<=b.length):=by
 have e:can 43 b=(by_ 5 b).map fun p=>(p.1++p.2, []):=rfl
 unfold ok
 rw[e]
 unfold by_
 split
 ·rename_i h;simp;omega
 ·rename_i h;simp;omega
theorem ok_51 (b:List UInt8):ok 51 b=(decide (5<=b.length) && decide (b.length=5+(b.getD 4 0).toNat)):=by
 have e:can 51 b=(by_ 4 b).bind fun p=>(cnt p.2).map fun q=>(p.1++pc q.1,q.2):=rfl
 unfold ok
 rw[e]
 match b with
 | []=>rfl
 | [_]=>rfl
 | [_,_]=>rfl
 | [_,_,_]=>rfl
 | [_,_,_,_]=>rfl
 | x0::x1::x2::x3::x4::r =>
  have e1:by_ 4 (x0::x1::x2::x3::x4::r)=some ([x0,x1,x2,x3],x4::r):=by
   unfold by_;rw[if_neg (by simp)];rfl
  rw[e1]
  simp only[Option.bind_some]
  have e2:cnt (x4::r)=by_ x4.toNat r:=rfl
  have g:(((cnt (x4::r)).map fun q=>([x0,x1,x2,x3]++pc q.1,q.2)).any fun p=>decide (p.2 = []))=(cnt (x4::r)).any fun p=>decide (p.2 = []):=by cases cnt (x4::r) <;> rfl
  rw[g,e2,by_is]
  simp
  omega
end D
set_option maxHeartbeats 400000 in
theorem chk_1 (b:List UInt8) (ao:Option Addr) (len cap:Nat) (w:World) (hl:Hid (b.length=len)) (_hs:SlL w ao b) (_hc:len<=cap) (_hnil:ao=none->cap=0) (h8:len<=8192) :
 Calls Tryz.prog 89 #[.int .u16 1,.slice ao len cap] w fun e w'=>e = .returned (.int .i64 (codeOf (D.full b (D.can 1 b))))/\Below w.heap.size w w':=by
 have hlen:=hl.out
 have HC:Hid (codeOf (D.full b (D.can 1 b))=if D.ok 1 b then 0 else 50):=D.code_ok (by omega)
 have h9 : ¬ (8192:Int)<(len:Int):=by omega
 clear _hs
 by_cases h:len=4
 ·have HK:Hid (D.ok 1 b=true):=by show _=_;rw[D.ok_1];exact decide_eq_true (by omega)
  have e1:((len:Int) == 4)=true:=beq_iff_eq.2 (by omega)
  go_enter Tryz.func89,Tryz.ntmps89
  go_wp2
  go_ret
  exact⟨by rw[HC.out,HK.out];rfl,Below.refl _ _⟩
 ·have HK:Hid (D.ok 1 b=false):=by show _=_;rw[D.ok_1];exact decide_eq_false (by omega)
  have e1:((len:Int) == 4)=false:=beq_eq_false_iff_ne.2 (by omega)
  go_enter Tryz.func89,Tryz.ntmps89
  go_wp2
  go_ret
  exact⟨by rw[HC.out,HK.out];rfl,Below.refl _ _⟩
set_option maxHeartbeats 400000 in
theorem chk_28 (b:List UInt8) (ao:Option Addr) (len cap:Nat) (w:World) (hl:Hid (b.length=len)) (_hs:SlL w ao b) (_hc:len<=cap) (_hnil:ao=none->cap=0) (h8:len<=8192) :
 Calls Tryz.prog 89 #[.int .u16 28,.slice ao len cap] w fun e w'=>e = .returned (.int .i64 (codeOf (D.full b (D.can 28 b))))/\Below w.heap.size w w':=by
 have hlen:=hl.out
 have HC:Hid (codeOf (D.full b (D.can 28 b))=if D.ok 28 b then 0 else 50):=D.code_ok (by omega)
 have h9 : ¬ (8192:Int)<(len:Int):=by omega
 clear _hs
 by_cases h:len=16
 ·have HK:Hid (D.ok 28 b=true):=by show _=_;rw[D.ok_28];exact decide_eq_true (by omega)
  have e1:((len:Int) == 16)=true:=beq_iff_eq.2 (by omega)
  go_enter Tryz.func89,Tryz.ntmps89
  go_wp2
  go_ret
  exact⟨by rw[HC.out,HK.out];rfl,Below.refl _ _⟩
 ·have HK:Hid (D.ok 28 b=false):=by show _=_;rw[D.ok_28];exact decide_eq_false (by omega)
  have e1:((len:Int) == 16)=false:=beq_eq_false_iff_ne.2 (by omega)
  go_enter Tryz.func89,Tryz.ntmps89
  go_wp2
  go_ret
  exact⟨by rw[HC.out,HK.out];rfl,Below.refl _ _⟩
set_option maxHeartbeats 400000 in
theorem chk_2 (b:List UInt8) (ao:Option Addr) (len cap:Nat) (w:World) (hl:Hid (b.length=len)) (hs:SlL w ao b) (hc:len<=cap) (_hnil:ao=none->cap=0) (h8:len<=8192) :
 Calls Tryz.prog 89 #[.int .u16 2,.slice ao len cap] w fun e w'=>e = .returned (.int .i64 (codeOf (D.full b (D.can 2 b))))/\Below w.heap.size w w':=by
 have hlen:=hl.out
 have HC:Hid (codeOf (D.full b (D.can 2 b))=if D.ok 2 b then 0 else 50):=D.code_ok (by omega)
 have HK:Hid (D.ok 2 b=wholeB b):=D.ok_2 b
 have h9 : ¬ (8192:Int)<(len:Int):=by omega
 have HS:=hide hs
 clear hs
 go_enter Tryz.func89,Tryz.ntmps89
 go_wp2_with fail
 refine (whole_any b ao len cap _ hl (by exact HS.out) (by omega) hc).mono ?_
 rintro e w1 ⟨rfl,hb⟩
 generalize wholeB b=x at HK ⊢
 cases x
 ·go_wp2
  go_ret
  exact⟨by rw[HC.out,HK.out];rfl,hb⟩
 ·go_wp2
  go_ret
  exact⟨by rw[HC.out,HK.out];rfl,hb⟩
set_option maxHeartbeats 400000 in
theorem chk_5 (b:List UInt8) (ao:Option Addr) (len cap:Nat) (w:World) (hl:Hid (b.length=len)) (hs:SlL w ao b) (hc:len<=cap) (_hnil:ao=none->cap=0) (h8:len<=8192) :
 Calls Tryz.prog 89 #[.int .u16 5,.slice ao len cap] w fun e w'=>e = .returned (.int .i64 (codeOf (D.full b (D.can 5 b))))/\Below w.heap.size w w':=by
 have hlen:=hl.out
 have HC:Hid (codeOf (D.full b (D.can 5 b))=if D.ok 5 b then 0 else 50):=D.code_ok (by omega)
 have HK:Hid (D.ok 5 b=wholeB b):=D.ok_5 b
 have h9 : ¬ (8192:Int)<(len:Int):=by omega
 have HS:=hide hs
 clear hs
 go_enter Tryz.func89,Tryz.ntmps89
 go_wp2_with fail
 refine (whole_any b ao len cap _ hl (by exact HS.out) (by omega) hc).mono ?_
 rintro e w1 ⟨rfl,hb⟩
 generalize wholeB b=x at HK ⊢
 cases x
 ·go_wp2
  go_ret
  exact⟨by rw[HC.out,HK.out];rfl,hb⟩
 ·go_wp2
  go_ret
  exact⟨by rw[HC.out,HK.out];rfl,hb⟩
set_option maxHeartbeats 400000 in
theorem chk_15 (b:List UInt8) (ao:Option Addr) (len cap:Nat) (w:World) (hl:Hid (b.length=len)) (hs:SlL w ao b) (hc:len<=cap) (_hnil:ao=none->cap=0) (h8:len<=8192) :
 Calls Tryz.prog 89 #[.int .u16 15,.slice ao len cap] w fun e w'=>e = .returned (.int .i64 (codeOf (D.full b (D.can 15 b))))/\Below w.heap.size w w':=by
 have hlen:=hl.out
 have HC:Hid (codeOf (D.full b (D.can 15 b))=if D.ok 15 b then 0 else 50):=D.code_ok (by omega)
 have HK:Hid (D.ok 15 b=(decide (2<b.length) && wholeB (b.drop 2))):=D.ok_15 b
 have h9 : ¬ (8192:Int)<(len:Int):=by omega
 by_cases h2:2<len
 ·obtain⟨blk,o,rfl,hblt,hcell⟩:=hs (by omega)
  obtain⟨ad2,r2,s2⟩:=cut_tl 2 hs hl.out (by omega) hc
  replace r2 : ∀ W,(Instr.slice 37 (.slice (some ⟨blk,o,none⟩) len cap) (some (.int .i64 2)) none none).run Tryz.prog W = .ok (.slice (some ad2) (len - 2) (cap - 2)) W:=r2
  have S2:=hide s2
  have hd:Hid ((b.drop 2).length=len - 2):=by show _=_;rw[List.length_drop];omega
  rw[hlen,decide_eq_true h2,Bool.true_and] at HK
  have i2:(2:Int)<(len:Int):=by omega
  clear hs hcell s2 h2
  go_enter Tryz.func89,Tryz.ntmps89
  go_wp2_with fail
  refine (whole_any (b.drop 2) (some ad2) (len - 2) (cap - 2) _ hd (by exact S2.out) (by omega) (by omega)).mono ?_
  rintro e w1 ⟨rfl,hb⟩
  generalize wholeB (b.drop 2)=x at HK ⊢
  cases x
  ·go_wp2
   go_ret
   exact⟨by rw[HC.out,HK.out];rfl,hb⟩
  ·go_wp2
   go_ret
   exact⟨by rw[HC.out,HK.out];rfl,hb⟩
 ·rw[hlen,decide_eq_false h2,Bool.false_and] at HK
  have i2 : ¬ (2:Int)<(len:Int):=by omega
  clear hs h2
  go_enter Tryz.func89,Tryz.ntmps89
  go_wp2
  go_ret
  exact⟨by rw[HC.out,HK.out];rfl,Below.refl _ _⟩
set_option maxHeartbeats 400000 in
theorem chk_6 (b:List UInt8) (ao:Option Addr) (len cap:Nat) (w:World) (hl:Hid (b.length=len)) (hs:SlL w ao b) (hc:len<=cap) (hnil:ao=none->cap=0) (h8:len<=8192) :
 Calls Tryz.prog 89 #[.int .u16 6,.slice ao len cap] w fun e w'=>e = .returned (.int .i64 (codeOf (D.full b (D.can 6 b))))/\Below w.heap.size w w':=by
 have HC:Hid (codeOf (D.full b (D.can 6 b))=codeOf (D.full b (D.soa b))):=D.code_map b (D.soa b) (fun p=>D.soaB p.low)
 have h9 : ¬ (8192:Int)<(len:Int):=by omega
 have HS:=hide hs
 clear hs
 go_enter Tryz.func89,Tryz.ntmps89
 go_wp2_with fail
 refine (sSoa_any b ao len cap _ hl (by exact HS.out) hc hnil h8).mono ?_
 rintro e w1 ⟨⟨x,v,ho,rfl,hv⟩ | ⟨ho,rfl⟩,hb⟩
 ·have HO:=hide ho
  obtain⟨_,_,_,_,rfl,_⟩:=hv
  clear ho
  go_wp2
  go_ret
  exact⟨by rw[HC.out,HO.out];rfl,hb.alloc hb.size _⟩
 ·have HO:=hide ho
  clear ho
  go_wp2
  go_ret
  exact⟨by rw[HC.out,HO.out];rfl,hb.alloc hb.size _⟩
set_option maxHeartbeats 400000 in
theorem chk_46 (b:List UInt8) (ao:Option Addr) (len cap:Nat) (w:World) (hl:Hid (b.length=len)) (hs:SlL w ao b) (hc:len<=cap) (hnil:ao=none->cap=0) (h8:len<=8192) :
 Calls Tryz.prog 89 #[.int .u16 46,.slice ao len cap] w fun e w'=>e = .returned (.int .i64 (codeOf (D.full b (D.can 46 b))))/\Below w.heap.size w w':=by
 have HC:Hid (codeOf (D.full b (D.can 46 b))=codeOf (D.full b (D.sig b))):=D.code_map b (D.sig b) (fun p=>D.sigB p.low)
 have h9 : ¬ (8192:Int)<(len:Int):=by omega
 have HS:=hide hs
 clear hs
 go_enter Tryz.func89,Tryz.ntmps89
 go_wp2_with fail
 refine (sSig_any b ao len cap _ hl (by exact HS.out) hc hnil h8).mono ?_
 rintro e w1 ⟨⟨x,v,ho,rfl,hv⟩ | ⟨ho,rfl⟩,hb⟩
 ·have HO:=hide ho
  obtain⟨_,_,_,_,rfl,_⟩:=hv
  clear ho
  go_wp2
  go_ret
  exact⟨by rw[HC.out,HO.out];rfl,hb.alloc hb.size _⟩
 ·have HO:=hide ho
  clear ho
  go_wp2
  go_ret
  exact⟨by rw[HC.out,HO.out];rfl,hb.alloc hb.size _⟩
set_option maxHeartbeats 400000 in
theorem chk_48 (b:List UInt8) (ao:Option Addr) (len cap:Nat) (w:World) (hl:Hid (b.length=len)) (hs:SlL w ao b) (hc:len<=cap) (_hnil:ao=none->cap=0) (h8:len<=8192) :
 Calls Tryz.prog 89 #[.int .u16 48,.slice ao len cap] w fun e w'=>e = .returned (.int .i64 (codeOf (D.full b (D.can 48 b))))/\Below w.heap.size w w':=by
 have HC:Hid (codeOf (D.full b (D.can 48 b))=codeOf (D.full b (D.key b))):=D.code_map b (D.key b) (D.keyB)
 have h9 : ¬ (8192:Int)<(len:Int):=by omega
 have HS:=hide hs
 clear hs
 go_enter Tryz.func89,Tryz.ntmps89
 go_wp2_with fail
 refine (sKey_any b ao len cap _ hl (by exact HS.out) hc h8).mono ?_
 rintro e w1 ⟨⟨x,v,ho,rfl,hv⟩ | ⟨ho,rfl⟩,hb⟩
 ·have HO:=hide ho
  obtain⟨_,_,rfl,_⟩:=hv
  clear ho
  go_wp2
  go_ret
  exact⟨by rw[HC.out,HO.out];rfl,hb.alloc hb.size _⟩
 ·have HO:=hide ho
  clear ho
  go_wp2
  go_ret
  exact⟨by rw[HC.out,HO.out];rfl,hb.alloc hb.size _⟩
set_option maxHeartbeats 400000 in
theorem chk_50 (b:List UInt8) (ao:Option Addr) (len cap:Nat) (w:World) (hl:Hid (b.length=len)) (hs:SlL w ao b) (hc:len<=cap) (_hnil:ao=none->cap=0) (h8:len<=8192) :
 Calls Tryz.prog 89 #[.int .u16 50,.slice ao len cap] w fun e w'=>e = .returned (.int .i64 (codeOf (D.full b (D.can 50 b))))/\Below w.heap.size w w':=by
 have HC:Hid (codeOf (D.full b (D.can 50 b))=codeOf (D.full b (D.chain b))):=D.code_map b (D.chain b) (D.chainB)
 have h9 : ¬ (8192:Int)<(len:Int):=by omega
 have HS:=hide hs
 clear hs
 go_enter Tryz.func89,Tryz.ntmps89
 go_wp2_with fail
 refine (sChain_any b ao len cap _ hl (by exact HS.out) hc h8).mono ?_
 rintro e w1 ⟨⟨x,v,ho,rfl,hv⟩ | ⟨ho,rfl⟩,hb⟩
 ·have HO:=hide ho
  obtain⟨_,_,_,_,_,_,rfl,_⟩:=hv
  clear ho
  go_wp2
  go_ret
  exact⟨by rw[HC.out,HO.out];rfl,hb.alloc hb.size _⟩
 ·have HO:=hide ho
  clear ho
  go_wp2
  go_ret
  exact⟨by rw[HC.out,HO.out];rfl,hb.alloc hb.size _⟩
set_option maxHeartbeats 400000 in
theorem chk_43 (b:List UInt8) (ao:Option Addr) (len cap:Nat) (w:World) (hl:Hid (b.length=len)) (_hs:SlL w ao b) (_hc:len<=cap) (_hnil:ao=none->cap=0) (h8:len<=8192) :
 Calls Tryz.prog 89 #[.int .u16 43,.slice ao len cap] w fun e w'=>e = .returned (.int .i64 (codeOf (D.full b (D.can 43 b))))/\Below w.heap.size w w':=by
 have hlen:=hl.out
 have HC:Hid (codeOf (D.full b (D.can 43 b))=if D.ok 43 b then 0 else 50):=D.code_ok (by omega)
 have h9 : ¬ (8192:Int)<(len:Int):=by omega
 clear _hs
 by_cases h:5<=len
 ·have HK:Hid (D.ok 43 b=true):=by show _=_;rw[D.ok_43];exact decide_eq_true (by omega)
  have e1:(5:Int)<=(len:Int):=by omega
  go_enter Tryz.func89,Tryz.ntmps89
  go_wp2
  go_ret
  exact⟨by rw[HC.out,HK.out];rfl,Below.refl _ _⟩
 ·have HK:Hid (D.ok 43 b=false):=by show _=_;rw[D.ok_43];exact decide_eq_false (by omega)
  have e1 : ¬ (5:Int)<=(len:Int):=by omega
  go_enter Tryz.func89,Tryz.ntmps89
  go_wp2
  go_ret
  exact⟨by rw[HC.out,HK.out];rfl,Below.refl _ _⟩
set_option maxHeartbeats 400000 in
theorem chk_51 (b:List UInt8) (ao:Option Addr) (len cap:Nat) (w:World) (hl:Hid (b.length=len)) (hs:SlL w ao b) (_hc:len<=cap) (_hnil:ao=none->cap=0) (h8:len<=8192) :
 Calls Tryz.prog 89 #[.int .u16 51,.slice ao len cap] w fun e w'=>e = .returned (.int .i64 (codeOf (D.full b (D.can 51 b))))/\Below w.heap.size w w':=by
 have hlen:=hl.out
 have HC:Hid (codeOf (D.full b (D.can 51 b))=if D.ok 51 b then 0 else 50):=D.code_ok (by omega)
 have hk:=D.ok_51 b
 have h9 : ¬ (8192:Int)<(len:Int):=by omega
 by_cases h:5<=len
 ·have e1:(5:Int)<=(len:Int):=by omega
  obtain⟨blk,o,rfl,hblt,hcell⟩:=hs (by omega)
  have c4:=hcell 4 (by omega)
  have hy:=(b.getD 4 0).toNat_lt
  rw[hlen,decide_eq_true h,Bool.true_and] at hk
  generalize (b.getD 4 0).toNat=y at hk c4 hy
  have i4:(4:Int)<(len:Int):=by omega
  clear hs hcell
  by_cases h5:len=5+y
  ·have HK:Hid (D.ok 51 b=true):=by show _=_;rw[hk];exact decide_eq_true h5
   have e2:((len:Int) == 5+(y:Int))=true:=beq_iff_eq.2 (by omega)
   clear hk
   go_enter Tryz.func89,Tryz.ntmps89
   go_wp2
   go_ret
   exact⟨by rw[HC.out,HK.out];rfl,Below.refl _ _⟩
  ·have HK:Hid (D.ok 51 b=false):=by show _=_;rw[hk];exact decide_eq_false h5
   have e2:((len:Int) == 5+(y:Int))=false:=beq_eq_false_iff_ne.2 (by omega)
   clear hk
   go_enter Tryz.func89,Tryz.ntmps89
   go_wp2
   go_ret
   exact⟨by rw[HC.out,HK.out];rfl,Below.refl _ _⟩
 ·have HK:Hid (D.ok 51 b=false):=by show _=_;rw[hk,hlen,decide_eq_false h,Bool.false_and]
  have e1 : ¬ (5:Int)<=(len:Int):=by omega
  clear hs hk
  go_enter Tryz.func89,Tryz.ntmps89
  go_wp2
  go_ret
  exact⟨by rw[HC.out,HK.out];rfl,Below.refl _ _⟩
set_option maxHeartbeats 400000 in
theorem chk_16 (b:List UInt8) (ao:Option Addr) (len cap:Nat) (w:World) (hl:Hid (b.length=len)) (hs:SlL w ao b) (_hc:len<=cap) (_hnil:ao=none->cap=0) (h8:len<=8192) :
 Calls Tryz.prog 89 #[.int .u16 16,.slice ao len cap] w fun e w'=>e = .returned (.int .i64 (codeOf (D.full b (D.can 16 b))))/\Below w.heap.size w w':=by
 have hlen:=hl.out
 have HC:Hid (codeOf (D.full b (D.can 16 b))=if D.ok 16 b then 0 else 50):=D.code_ok (by omega)
 have HK:Hid (D.ok 16 b=D.tok b):=D.ok_16 b
 have h9 : ¬ (8192:Int)<(len:Int):=by omega
 have HS:=hide hs
 clear hs
 go_enter Tryz.func89,Tryz.ntmps89
 go_wp2
 go_loopw [8] (fun i wr => ∃ j:Nat,i = .int .i64 (j:Int)/\j<=len+256/\Hid ((j<=b.length/\D.tz b=D.tz (b.drop j))\/(b.length<j/\D.tz b=false))/\wr=w) (fun i _=>len+256 - (intOf i).toNat)
 case atStart=>exact⟨0,rfl,by omega,Or.inl ⟨by omega,rfl⟩,rfl⟩
 case round =>
  obtain⟨j,rfl,hj,hI,rfl⟩:=hrel
  by_cases hlt:j<len
  ·obtain⟨b1,o1,rfl,hb1,hc1⟩:=HS.out (by omega)
   have hx:=hc1 j (by omega)
   have hn:=D.tz_next b j (by omega)
   have hy:=(b.getD j 0).toNat_lt
   clear hc1
   generalize (b.getD j 0).toNat=y at hx hn hy
   have HN:=hide hn
   clear hn
   have hjl:(j:Int)<(len:Int):=by omega
   go_wp2
   go_roundw
   case rel =>
    refine⟨j+1+y,by go_num,by omega,?_,trivial⟩
    rcases hI.out with⟨_,h1⟩ | ⟨h1,_⟩
    ·rcases HN.out with⟨g1,g2⟩ | ⟨g1,g2⟩
     ·exact Or.inl ⟨g1,h1.trans g2⟩
     ·exact Or.inr ⟨g1,h1.trans g2⟩
    ·omega
   case measure=>simp[intOf];omega
  ·have hjl : ¬ (j:Int)<(len:Int):=by omega
   by_cases h0:len=0
   ·have h00 : ¬ (0:Int)<(len:Int):=by omega
    have hb:b = []:=List.eq_nil_of_length_eq_zero (by omega)
    have HT:Hid (D.tok b=false):=by show _=_;rw[hb,D.tok]
    clear hb
    go_wp2
    go_ret
    exact⟨by rw[HC.out,HK.out,HT.out];rfl,Below.refl _ _⟩
   ·have h00:(0:Int)<(len:Int):=by omega
    have hb:b ≠ []:=fun q=>by rw[q] at hlen;simp at hlen;omega
    by_cases he:j=len
    ·have HT:Hid (D.tok b=true):=by
      show _=_
      rw[D.tz_tok b hb]
      rcases hI.out with⟨_,h1⟩ | ⟨h1,_⟩
      ·rw[h1,List.drop_eq_nil_of_le (by omega)];rfl
      ·omega
     have e2:((j:Int) == (len:Int))=true:=beq_iff_eq.2 (by omega)
     clear hI hb
     go_wp2
     go_ret
     exact⟨by rw[HC.out,HK.out,HT.out];rfl,Below.refl _ _⟩
    ·have HT:Hid (D.tok b=false):=by
      show _=_
      rw[D.tz_tok b hb]
      rcases hI.out with⟨_,h1⟩ | ⟨_,h1⟩
      ·omega
      ·exact h1
     have e2:((j:Int) == (len:Int))=false:=beq_eq_false_iff_ne.2 (by omega)
     clear hI hb
     go_wp2
     go_ret
     exact⟨by rw[HC.out,HK.out,HT.out];rfl,Below.refl _ _⟩
set_option maxHeartbeats 400000 in
theorem chk_else (t:Nat) (b:List UInt8) (ao:Option Addr) (len cap:Nat) (w:World) (_hl:Hid (b.length=len)) (_hs:SlL w ao b) (_hc:len<=cap) (_hnil:ao=none->cap=0) (h8:len<=8192) (h1:t≠1) (h28:t≠28) (h2:t≠2) (h5:t≠5) (h15:t≠15) (h6:t≠6) (h16:t≠16) (h43:t≠43) (h46:t≠46) (h48:t≠48) (h50:t≠50) (h51:t≠51) :
 Calls Tryz.prog 89 #[.int .u16 (t:Int),.slice ao len cap] w fun e w'=>e = .returned (.int .i64 0)/\Below w.heap.size w w':=by
 have b1:((t:Int) == 1)=false:=beq_eq_false_iff_ne.2 (by omega)
 have b28:((t:Int) == 28)=false:=beq_eq_false_iff_ne.2 (by omega)
 have b2:((t:Int) == 2)=false:=beq_eq_false_iff_ne.2 (by omega)
 have b5:((t:Int) == 5)=false:=beq_eq_false_iff_ne.2 (by omega)
 have b15:((t:Int) == 15)=false:=beq_eq_false_iff_ne.2 (by omega)
 have b6:((t:Int) == 6)=false:=beq_eq_false_iff_ne.2 (by omega)
 have b16:((t:Int) == 16)=false:=beq_eq_false_iff_ne.2 (by omega)
 have b43:((t:Int) == 43)=false:=beq_eq_false_iff_ne.2 (by omega)
 have b46:((t:Int) == 46)=false:=beq_eq_false_iff_ne.2 (by omega)
 have b48:((t:Int) == 48)=false:=beq_eq_false_iff_ne.2 (by omega)
 have b50:((t:Int) == 50)=false:=beq_eq_false_iff_ne.2 (by omega)
 have b51:((t:Int) == 51)=false:=beq_eq_false_iff_ne.2 (by omega)
 have h9 : ¬ (8192:Int)<(len:Int):=by omega
 clear h1 h28 h2 h5 h15 h6 h16 h43 h46 h48 h50 h51 _hs
 go_enter Tryz.func89,Tryz.ntmps89
 go_wp2
 go_ret
 exact⟨rfl,Below.refl _ _⟩
theorem sCheck_any (t:Nat) (b:List UInt8) (ao:Option Addr) (len cap:Nat) (w:World) (hl:Hid (b.length=len)) (hs:SlL w ao b) (hc:len<=cap) (hnil:ao=none->cap=0) (h8:len<=8192) :
 Calls Tryz.prog 89 #[.int .u16 (t:Int),.slice ao len cap] w fun e w'=>e = .returned (.int .i64 (codeOf (D.full b (D.can t b))))/\Below w.heap.size w w':=by
 by_cases h1:t=1
 ·subst h1;exact chk_1 b ao len cap w hl hs hc hnil h8
 by_cases h28:t=28
 ·subst h28;exact chk_28 b ao len cap w hl hs hc hnil h8
 by_cases h2:t=2
 ·subst h2;exact chk_2 b ao len cap w hl hs hc hnil h8
 by_cases h5:t=5
 ·subst h5;exact chk_5 b ao len cap w hl hs hc hnil h8
 by_cases h15:t=15
 ·subst h15;exact chk_15 b ao len cap w hl hs hc hnil h8
 by_cases h6:t=6
 ·subst h6;exact chk_6 b ao len cap w hl hs hc hnil h8
 by_cases h16:t=16
 ·subst h16;exact chk_16 b ao len cap w hl hs hc hnil h8
 by_cases h43:t=43
 ·subst h43;exact chk_43 b ao len cap w hl hs hc hnil h8
 by_cases h46:t=46
 ·subst h46;exact chk_46 b ao len cap w hl hs hc hnil h8
 by_cases h48:t=48
 ·subst h48;exact chk_48 b ao len cap w hl hs hc hnil h8
 by_cases h50:t=50
 ·subst h50;exact chk_50 b ao len cap w hl hs hc hnil h8
 by_cases h51:t=51
 ·subst h51;exact chk_51 b ao len cap w hl hs hc hnil h8
 have e:codeOf (D.full b (D.can t b))=0:=by
  have e1:D.can t b=some (b, []):=by simp[D.can,h1,h28,h2,h5,h15,h6,h16,h43,h46,h48,h50,h51]
  rw[e1,D.full_some (by rw[hl.out];exact h8) rfl];rfl
 rw[e]
 exact chk_else t b ao len cap w hl hs hc hnil h8 h1 h28 h2 h5 h15 h6 h16 h43 h46 h48 h50 h51
open Go.RowKit
theorem cls23456 {W:World} {g t:Nat} {x0 x1 x2 x3 x4 x5 x6:Value} (h:RowAt W g t #[x0,x1,x2,x3,x4,x5,x6]):W.cell? ⟨g,2,none⟩=some x2/\W.cell? ⟨g,3,none⟩=some x3/\W.cell? ⟨g,4,none⟩=some x4/\W.cell? ⟨g,5,none⟩=some x5/\W.cell? ⟨g,6,none⟩=some x6:=⟨h.cell 2,h.cell 3,h.cell 4,h.cell 5,h.cell 6⟩
theorem cls012 {W:World} {g t:Nat} {x0 x1 x2 x3 x4 x5 x6 x7 x8:Value} (h:RowAt W g t #[x0,x1,x2,x3,x4,x5,x6,x7,x8]):W.cell? ⟨g,0,none⟩=some x0/\W.cell? ⟨g,1,none⟩=some x1/\W.cell? ⟨g,2,none⟩=some x2:=⟨h.cell 0,h.cell 1,h.cell 2⟩
theorem cls345 {W:World} {g t:Nat} {x0 x1 x2 x3 x4 x5 x6 x7 x8:Value} (h:RowAt W g t #[x0,x1,x2,x3,x4,x5,x6,x7,x8]):W.cell? ⟨g,3,none⟩=some x3/\W.cell? ⟨g,4,none⟩=some x4/\W.cell? ⟨g,5,none⟩=some x5:=⟨h.cell 3,h.cell 4,h.cell 5⟩
theorem cls678 {W:World} {g t:Nat} {x0 x1 x2 x3 x4 x5 x6 x7 x8:Value} (h:RowAt W g t #[x0,x1,x2,x3,x4,x5,x6,x7,x8]):W.cell? ⟨g,6,none⟩=some x6/\W.cell? ⟨g,7,none⟩=some x7/\W.cell? ⟨g,8,none⟩=some x8:=⟨h.cell 6,h.cell 7,h.cell 8⟩
set_option maxHeartbeats 3200000 in
theorem sSoaBytes_any (s:D.Soa) (a1 a2:Option Addr) (n1 c1 n2 c2:Nat) (w:World) (h1:Hid (s.main.length=n1)) (h2:Hid (s.box.length=n2)) (hs1:SlS w a1 s.main) (hs2:SlS w a2 s.box) (hz1:N.size s.main<=1000) (hz2:N.size s.box<=1000)
 (ha:s.a<4294967296) (hb:s.b<4294967296) (hc:s.c<4294967296) (hd:s.d<4294967296) (he:s.e<4294967296) :
 Calls Tryz.prog 114 #[.agg #[.slice a1 n1 c1,.slice a2 n2 c2,.int .u32 (s.a:Int),.int .u32 (s.b:Int),.int .u32 (s.c:Int),.int .u32 (s.d:Int),.int .u32 (s.e:Int)]] w fun e w' => ∃ v',e = .returned v'/\OwnB w' w.heap.size v' (D.soaB s)/\Below w.heap.size w w':=by
 have S1:=hide hs1
 have S2:=hide hs2
 have m1:=hide (small_of hz1)
 have m2:=hide (small_of hz2)
 have l1:=N.wire_len s.main
 have l2:=N.wire_len s.box
 clear hs1 hs2
 unfold D.soaB
 obtain⟨main,box,a,b,c,d,e⟩:=s
 simp only at h1 h2 S1 S2 m1 m2 l1 l2 hz1 hz2 ha hb hc hd he ⊢
 have HROW:=hide (RowAt.new w 166 #[.slice a1 n1 c1,.slice a2 n2 c2,.int .u32 (a:Int),.int .u32 (b:Int),.int .u32 (c:Int),.int .u32 (d:Int),.int .u32 (e:Int)])
 have HB0:=hide ((Below.refl w.heap.size w).alloc (Nat.le_refl _) (.cells #[.slice a1 n1 c1,.slice a2 n2 c2,.int .u32 (a:Int),.int .u32 (b:Int),.int .u32 (c:Int),.int .u32 (d:Int),.int .u32 (e:Int)] 166))
 have HL1:Hid ((N.wire main).length<=1000):=by show _<=_;omega
 have HL2:Hid ((N.wire box).length<=1000):=by show _<=_;omega
 clear l1 l2
 go_enter Tryz.func114,Tryz.ntmps114
 go_wp2
 have x0:(w.alloc (.cells #[.slice a1 n1 c1,.slice a2 n2 c2,.int .u32 (a:Int),.int .u32 (b:Int),.int .u32 (c:Int),.int .u32 (d:Int),.int .u32 (e:Int)] 166)).cell? ⟨w.heap.size,0,none⟩=some (.slice a1 n1 c1):=HROW.out.cell 0
 have x1:(w.alloc (.cells #[.slice a1 n1 c1,.slice a2 n2 c2,.int .u32 (a:Int),.int .u32 (b:Int),.int .u32 (c:Int),.int .u32 (d:Int),.int .u32 (e:Int)] 166)).cell? ⟨w.heap.size,1,none⟩=some (.slice a2 n2 c2):=HROW.out.cell 1
 go_region_held3 (fun w'=>w'.cell? ⟨w.heap.size,0,none⟩=some (.slice a1 n1 c1)/\w'.cell? ⟨w.heap.size,1,none⟩=some (.slice a2 n2 c2)) ((first | (with_reducible exact⟨x0,x1⟩) | exact⟨x0,x1⟩)) ((first
  | (refine step_fn 47 #[.tmp 5] _ rfl rfl #[.slice a1 n1 c1] (by go_simp) (rWire_any main a1 n1 c1 _ h1 (by exact S1.out.alloc _) m1) (by rintro e w' ⟨v,rfl,_⟩;exact⟨v,rfl⟩) ?_;rintro v1 w1 ⟨_,he,hO1,hb1⟩;cases he;have r1:=RowAt.below (by exact HROW.out) hb1 (by simp <;> omega);have p1:w1.cell? ⟨w.heap.size,1,none⟩=some (.slice a2 n2 c2):=r1.cell 1;have x0:w1.cell? ⟨w.heap.size,0,none⟩=some (.slice a1 n1 c1):=r1.cell 0;have x1:w1.cell? ⟨w.heap.size,1,none⟩=some (.slice a2 n2 c2):=r1.cell 1;have R1:=hide r1;have O1:=hide (OwnB.lower (base':=w.heap.size) hO1 (by simp <;> omega));have z1:w.heap.size<=w1.heap.size:=Nat.le_trans (by simp <;> omega) hb1.size;have B1:=hide ((below_allocs HB0.out (Nat.le_refl _) (Or.inl rfl)).trans (hb1.mono (by simp <;> omega)));clear r1 hO1 hb1)
  | (refine step_fn 47 #[.tmp 8] _ rfl rfl #[.slice a2 n2 c2] (by go_simp) (rWire_any box a2 n2 c2 _ h2 (by exact S2.out.below B1.out (Nat.le_refl _)) m2) (by rintro e w' ⟨v,rfl,_⟩;exact⟨v,rfl⟩) ?_;rintro v2 w2 ⟨_,he,hO2,hb2⟩;cases he;have R2:=hide (R1.out.below hb2 R1.out.lt);have x0:w2.cell? ⟨w.heap.size,0,none⟩=some (.slice a1 n1 c1):=R2.out.cell 0;have x1:w2.cell? ⟨w.heap.size,1,none⟩=some (.slice a2 n2 c2):=R2.out.cell 1;have OM:=hide (O1.out.below hb2);obtain⟨g9,c9,rfl,_,_,_,_,_⟩:=hO2.form (by simp[N.wire]);have S9:=hide hO2.sl;have z2:w.heap.size<=w2.heap.size:=Nat.le_trans z1 hb2.size;have B2:=hide (B1.out.trans (hb2.mono z1));clear hO2 hb2)
  | (refine step_append_B rfl (.tmp 6) (.tmp 9) rfl w.heap.size v1 (N.wire main) (by simp[Act.eval]) (by exact OM.out) ⟨g9,0,none⟩ (N.wire box).length c9 (N.wire box) (by simp[Act.eval]) rfl (by exact S9.out) (by have:=HL1.out;have:=HL2.out;omega) (by exact z2) ?_;intro v4 w4 hO4 hG4;have K4:=hide (Kp.grown OM.out hG4 z2);have O4:=hide hO4;have R4:=hide (K4.out.2 _ _ _ R2.out (by decide));have x0:w4.cell? ⟨w.heap.size,0,none⟩=some (.slice a1 n1 c1):=R4.out.cell 0;have x1:w4.cell? ⟨w.heap.size,1,none⟩=some (.slice a2 n2 c2):=R4.out.cell 1;clear hG4 hO4)))
 all_goals
  have z4:w.heap.size<=w4.heap.size:=K4.out.size z2
  have B4:=hide (B2.out.trans K4.out.1)
  have R4:=hide (K4.out.2 _ _ _ R2.out (by decide))
  have L4:Hid ((N.wire main++N.wire box).length<=2000):=by have:=HL1.out;have:=HL2.out;show _<=_;rw[List.length_append];omega
  obtain⟨q,hq⟩ : ∃ q,N.wire main++N.wire box=q:=⟨_,rfl⟩
  rw[hq] at O4 L4
  have HQ:=hide hq
  clear hq
  have m2:w4.cell? ⟨w.heap.size,2,none⟩=some (.int .u32 (a:Int)):=R4.out.cell 2
  have m3:w4.cell? ⟨w.heap.size,3,none⟩=some (.int .u32 (b:Int)):=R4.out.cell 3
  have m4:w4.cell? ⟨w.heap.size,4,none⟩=some (.int .u32 (c:Int)):=R4.out.cell 4
  have m5:w4.cell? ⟨w.heap.size,5,none⟩=some (.int .u32 (d:Int)):=R4.out.cell 5
  have m6:w4.cell? ⟨w.heap.size,6,none⟩=some (.int .u32 (e:Int)):=R4.out.cell 6
  clear R2 B2 K4 S9 OM R1 B1 O1
  go_wp2
  replace O4:Hid (OwnB w4.drew w.heap.size v4 q):=hide (by exact O4.out)
  replace B4:=hide B4.out.drew
  replace R4:=hide R4.out.drew
  replace z4:w.heap.size<=w4.drew.heap.size:=z4
  go_region_held3 (fun w'=>w'.cell? ⟨w.heap.size,2,none⟩=some (.int .u32 (a:Int))/\w'.cell? ⟨w.heap.size,3,none⟩=some (.int .u32 (b:Int))/\w'.cell? ⟨w.heap.size,4,none⟩=some (.int .u32 (c:Int))/\w'.cell? ⟨w.heap.size,5,none⟩=some (.int .u32 (d:Int))/\w'.cell? ⟨w.heap.size,6,none⟩=some (.int .u32 (e:Int))) ((first | (with_reducible exact⟨m2,m3,m4,m5,m6⟩) | exact⟨m2,m3,m4,m5,m6⟩)) ((first
   | (refine step_fn 141 #[.tmp 11,.tmp 13,.const (.int .i64 4)] _ rfl rfl #[v4,.int .u32 (a:Int),.int .i64 ((4:Nat):Int)] (by go_simp) (put_any a 4 (by omega) w.heap.size v4 (q) _ O4.out z4 (by have:=L4.out;first | omega | (simp only[List.length_append,p32_len];omega))) (by rintro e w' ⟨v,rfl,_⟩;exact⟨v,rfl⟩) ?_;rintro v5 w5 ⟨_,he,hO5,hK5⟩;cases he;have z5:w.heap.size<=w5.heap.size:=hK5.size z4;have B5:=hide (B4.out.trans hK5.1);have R5:=hide (hK5.2 _ _ _ R4.out (by decide));rw[D.put_4] at hO5;have O5:=hide hO5;obtain⟨m2,m3,m4,m5,m6⟩:=cls23456 R5.out;clear hO5 hK5)
   | (refine step_fn 141 #[.tmp 14,.tmp 16,.const (.int .i64 4)] _ rfl rfl #[v5,.int .u32 (b:Int),.int .i64 ((4:Nat):Int)] (by go_simp) (put_any b 4 (by omega) w.heap.size v5 (q++D.p32 a) _ O5.out z5 (by have:=L4.out;first | omega | (simp only[List.length_append,p32_len];omega))) (by rintro e w' ⟨v,rfl,_⟩;exact⟨v,rfl⟩) ?_;rintro v6 w6 ⟨_,he,hO6,hK6⟩;cases he;have z6:w.heap.size<=w6.heap.size:=hK6.size z5;have B6:=hide (B5.out.trans hK6.1);have R6:=hide (hK6.2 _ _ _ R5.out (by decide));rw[D.put_4] at hO6;have O6:=hide hO6;obtain⟨m2,m3,m4,m5,m6⟩:=cls23456 R6.out;clear hO6 hK6)
   | (refine step_fn 141 #[.tmp 17,.tmp 19,.const (.int .i64 4)] _ rfl rfl #[v6,.int .u32 (c:Int),.int .i64 ((4:Nat):Int)] (by go_simp) (put_any c 4 (by omega) w.heap.size v6 (q++D.p32 a++D.p32 b) _ O6.out z6 (by have:=L4.out;first | omega | (simp only[List.length_append,p32_len];omega))) (by rintro e w' ⟨v,rfl,_⟩;exact⟨v,rfl⟩) ?_;rintro v7 w7 ⟨_,he,hO7,hK7⟩;cases he;have z7:w.heap.size<=w7.heap.size:=hK7.size z6;have B7:=hide (B6.out.trans hK7.1);have R7:=hide (hK7.2 _ _ _ R6.out (by decide));rw[D.put_4] at hO7;have O7:=hide hO7;obtain⟨m2,m3,m4,m5,m6⟩:=cls23456 R7.out;clear hO7 hK7)
   | (refine step_fn 141 #[.tmp 20,.tmp 22,.const (.int .i64 4)] _ rfl rfl #[v7,.int .u32 (d:Int),.int .i64 ((4:Nat):Int)] (by go_simp) (put_any d 4 (by omega) w.heap.size v7 (q++D.p32 a++D.p32 b++D.p32 c) _ O7.out z7 (by have:=L4.out;first | omega | (simp only[List.length_append,p32_len];omega))) (by rintro e w' ⟨v,rfl,_⟩;exact⟨v,rfl⟩) ?_;rintro v8 w8 ⟨_,he,hO8,hK8⟩;cases he;have z8:w.heap.size<=w8.heap.size:=hK8.size z7;have B8:=hide (B7.out.trans hK8.1);have R8:=hide (hK8.2 _ _ _ R7.out (by decide));rw[D.put_4] at hO8;have O8:=hide hO8;obtain⟨m2,m3,m4,m5,m6⟩:=cls23456 R8.out;clear hO8 hK8)
   | (refine step_fn 141 #[.tmp 23,.tmp 25,.const (.int .i64 4)] _ rfl rfl #[v8,.int .u32 (e:Int),.int .i64 ((4:Nat):Int)] (by go_simp) (put_any e 4 (by omega) w.heap.size v8 (q++D.p32 a++D.p32 b++D.p32 c++D.p32 d) _ O8.out z8 (by have:=L4.out;first | omega | (simp only[List.length_append,p32_len];omega))) (by rintro e w' ⟨v,rfl,_⟩;exact⟨v,rfl⟩) ?_;rintro v9 w9 ⟨_,he,hO9,hK9⟩;cases he;have z9:w.heap.size<=w9.heap.size:=hK9.size z8;have B9:=hide (B8.out.trans hK9.1);have R9:=hide (hK9.2 _ _ _ R8.out (by decide));rw[D.put_4] at hO9;have O9:=hide hO9;obtain⟨m2,m3,m4,m5,m6⟩:=cls23456 R9.out;clear hO9 hK9)))
  all_goals
   go_wp2
   go_ret
   exact⟨_,rfl,by rw[HQ.out];exact O9.out,B9.out⟩
open Go.RowKit
theorem step_append_Bo {ops:Array Oper} {o:Oper} {a:Act} {w:World} {K:Act->World->Prop} {Q:Exit->Act->World->Prop} {E:Prop} (hgd:o.guard=none) (s x:Operand)
 (ho:o.op = .call { callee := .builtin .append,args := #[s,x],argTypes := #[37,37] }) (base:Nat) (v:Value) (l:List UInt8) (hs:a.eval s=v) (hown:OwnB w base v l)
 (ao:Option Addr) (m c:Nat) (l2:List UInt8) (hx:a.eval x = .slice ao m c) (hm:l2.length=m) (hsrc:SlL w ao l2) (hnil:ao=none->c=0) (hbound:l.length+m<=1099511627776) (hbase:base<=w.heap.size)
 (h : ∀ v' w',OwnB w' base v' (l++l2)->w.grownBy w' v.ownBlock->K (a.put o.dst v') w'):if Region.wanted o (yielded ops a.tmps)=true then Oper.wp Tryz.prog o a w K Q else E:=by
 cases ao with
 | some ad=>exact step_append_B hgd s x ho base v l hs hown ad m c l2 hx hm hsrc hbound hbase h
 | none =>
  subst hm
  have h0:l2.length=0:=by
   rcases Nat.eq_zero_or_pos l2.length with h | h
   ·exact h
   ·obtain⟨b,o,e,_⟩:=hsrc h;cases e
  obtain rfl:l2 = []:=List.eq_nil_of_length_eq_zero h0
  obtain rfl:=hnil rfl
  obtain⟨i0,hi,_,_,_⟩:=info_parts infoB
  have hw:Region.wanted o (yielded ops a.tmps)=true:=by simp[Region.wanted,hgd]
  rw[if_pos hw]
  have hrun:=run_append_owned_none (P:=Tryz.prog) (w:=w) base 37 o.type 5 i0 1 Tryz.underlying37 hi v l.length (vb l) hown
  unfold Oper.wp
  simp[execOp,ho,resolve,invoke,builtin,hs,hx,hrun,Result.andThen]
  exact h v w (by rw[List.append_nil];exact hown) ⟨rfl,rfl,rfl,Nat.le_refl _,fun _ _ _=>rfl⟩
set_option maxHeartbeats 3200000 in
theorem sSigBytes_any (s:D.Sig) (a1 a2:Option Addr) (n1 c1 n2 c2:Nat) (w:World) (h1:Hid (s.signer.length=n1)) (h2:Hid (s.sig.length=n2)) (hs1:SlS w a1 s.signer) (hs2:SlL w a2 s.sig) (hnil:a2=none->c2=0) (hz1:N.size s.signer<=1000) (hz2:n2<=100000)
 (ht:s.type<65536) (ha:s.alg<256) (hb:s.labels<256) (hc:s.ttl<4294967296) (hd:s.expire<4294967296) (he:s.begin_<4294967296) (hg:s.tag<65536) :
 Calls Tryz.prog 160 #[.agg #[.int .u16 (s.type:Int),.int .u8 (s.alg:Int),.int .u8 (s.labels:Int),.int .u32 (s.ttl:Int),.int .u32 (s.expire:Int),.int .u32 (s.begin_:Int),.int .u16 (s.tag:Int),.slice a1 n1 c1,.slice a2 n2 c2]] w fun e w' => ∃ v',e = .returned v'/\OwnB w' w.heap.size v' (D.sigB s)/\Below w.heap.size w w':=by
 have S1:=hide hs1
 have S2:=hide hs2
 have NI:=hide hnil
 have m1':=hide (small_of hz1)
 have l1:=N.wire_len s.signer
 clear hs1 hs2 hnil
 unfold D.sigB
 obtain⟨type,alg,labels,ttl,expire,begin_,tag,signer,sig⟩:=s
 simp only at h1 h2 S1 S2 m1' l1 hz1 ht ha hb hc hd he hg ⊢
 have q1:(alg:Int)=((UInt8.ofNat alg).toNat:Int):=by rw[D.nat_u8 _ ha]
 have q2:(labels:Int)=((UInt8.ofNat labels).toNat:Int):=by rw[D.nat_u8 _ hb]
 rw[q1,q2]
 clear q1 q2
 generalize UInt8.ofNat alg=x
 generalize UInt8.ofNat labels=y
 have R0:=hide (RowAt.new w 175 #[.int .u16 (type:Int),.int .u8 (x.toNat:Int),.int .u8 (y.toNat:Int),.int .u32 (ttl:Int),.int .u32 (expire:Int),.int .u32 (begin_:Int),.int .u16 (tag:Int),.slice a1 n1 c1,.slice a2 n2 c2])
 have B0:=hide ((Below.refl w.heap.size w).alloc (Nat.le_refl _) (.cells #[.int .u16 (type:Int),.int .u8 (x.toNat:Int),.int .u8 (y.toNat:Int),.int .u32 (ttl:Int),.int .u32 (expire:Int),.int .u32 (begin_:Int),.int .u16 (tag:Int),.slice a1 n1 c1,.slice a2 n2 c2] 175))
 have HL1:Hid ((N.wire signer).length<=1000):=by show _<=_;omega
 clear l1
 go_enter Tryz.func160,Tryz.ntmps160
 go_wp2
 have m0:(w.alloc (.cells #[.int .u16 (type:Int),.int .u8 (x.toNat:Int),.int .u8 (y.toNat:Int),.int .u32 (ttl:Int),.int .u32 (expire:Int),.int .u32 (begin_:Int),.int .u16 (tag:Int),.slice a1 n1 c1,.slice a2 n2 c2] 175)).cell? ⟨w.heap.size,0,none⟩=some (.int .u16 (type:Int)):=R0.out.cell 0
 have m1:(w.alloc (.cells #[.int .u16 (type:Int),.int .u8 (x.toNat:Int),.int .u8 (y.toNat:Int),.int .u32 (ttl:Int),.int .u32 (expire:Int),.int .u32 (begin_:Int),.int .u16 (tag:Int),.slice a1 n1 c1,.slice a2 n2 c2] 175)).cell? ⟨w.heap.size,1,none⟩=some (.int .u8 (x.toNat:Int)):=R0.out.cell 1
 have m2:(w.alloc (.cells #[.int .u16 (type:Int),.int .u8 (x.toNat:Int),.int .u8 (y.toNat:Int),.int .u32 (ttl:Int),.int .u32 (expire:Int),.int .u32 (begin_:Int),.int .u16 (tag:Int),.slice a1 n1 c1,.slice a2 n2 c2] 175)).cell? ⟨w.heap.size,2,none⟩=some (.int .u8 (y.toNat:Int)):=R0.out.cell 2
 have hwt:IntKind.u32.wrap (type:Int)=(type:Int):=by rw[IntKind.wrap_u32];omega
 have hwg:IntKind.u32.wrap (tag:Int)=(tag:Int):=by rw[IntKind.wrap_u32];omega
 go_region_held3 (fun w'=>w'.cell? ⟨w.heap.size,0,none⟩=some (.int .u16 (type:Int))/\w'.cell? ⟨w.heap.size,1,none⟩=some (.int .u8 (x.toNat:Int))/\w'.cell? ⟨w.heap.size,2,none⟩=some (.int .u8 (y.toNat:Int))) ((first | (with_reducible exact⟨m0,m1,m2⟩) | exact⟨m0,m1,m2⟩ | exact⟨(R1.out.alloc _).cell 0,(R1.out.alloc _).cell 1,(R1.out.alloc _).cell 2⟩ | exact⟨(R0.out.alloc _).cell 0,(R0.out.alloc _).cell 1,(R0.out.alloc _).cell 2⟩)) ((first
  | (refine step_fn 141 #[.const (.slice none 0 0),.tmp 6,.const (.int .i64 2)] _ rfl rfl #[.slice none 0 0,.int .u32 (type:Int),.int .i64 ((2:Nat):Int)] (by go_simp) (put_any type 2 (by omega) _ (.slice none 0 0) [] _ (OwnB.nil _ _) (Nat.le_refl _) (by simp)) (by rintro e w' ⟨v,rfl,_⟩;exact⟨v,rfl⟩) ?_;rintro v1 w1 ⟨_,he,hO1,hK1⟩;cases he;have R1:=hide (RowAt.below (by exact R0.out) hK1.1 (by simp <;> omega));have B1:=hide ((below_allocs B0.out (Nat.le_refl _) (Or.inl rfl)).trans (hK1.1.mono (by simp <;> omega)));have z1:w.heap.size<=w1.heap.size:=Nat.le_trans (by simp <;> omega) hK1.1.size;rw[D.put_2,List.nil_append] at hO1;have O1:=hide (OwnB.lower (base':=w.heap.size) hO1 (by simp <;> omega));obtain⟨m0,m1,m2⟩:=cls012 R1.out;clear hO1 hK1)
  | (refine step_fn 141 #[.const (.slice none 0 0),.tmp 6,.const (.int .i64 2)] _ rfl rfl #[.slice none 0 0,.int .u32 (type:Int),.int .i64 ((2:Nat):Int)] (by go_simp) (put_any type 2 (by omega) _ (.slice none 0 0) [] _ (OwnB.nil _ _) (Nat.le_refl _) (by simp)) (by rintro e w' ⟨v,rfl,_⟩;exact⟨v,rfl⟩) ?_;rintro v1 w1 ⟨_,he,hO1,hK1⟩;cases he;have R1:=hide (RowAt.below (by exact R0.out.alloc _) hK1.1 (by simp <;> omega));have B1:=hide ((below_allocs B0.out (Nat.le_refl _) (Or.inr ⟨_,rfl⟩)).trans (hK1.1.mono (by simp <;> omega)));have sl:=SlL.below (by exact SlL.litm (w.alloc (.cells #[.int .u16 (type:Int),.int .u8 (x.toNat:Int),.int .u8 (y.toNat:Int),.int .u32 (ttl:Int),.int .u32 (expire:Int),.int .u32 (begin_:Int),.int .u16 (tag:Int),.slice a1 n1 c1,.slice a2 n2 c2] 175)) [x,y] _ 5 (0,0) rfl) hK1.1 (Nat.le_refl _);rw[show (w.alloc (.cells #[.int .u16 (type:Int),.int .u8 (x.toNat:Int),.int .u8 (y.toNat:Int),.int .u32 (ttl:Int),.int .u32 (expire:Int),.int .u32 (begin_:Int),.int .u16 (tag:Int),.slice a1 n1 c1,.slice a2 n2 c2] 175)).heap.size=w.heap.size+1 by simp] at sl;have SL:=hide sl;clear sl;have z1:w.heap.size<=w1.heap.size:=Nat.le_trans (by simp <;> omega) hK1.1.size;rw[D.put_2,List.nil_append] at hO1;have O1:=hide (OwnB.lower (base':=w.heap.size) hO1 (by simp <;> omega));obtain⟨m0,m1,m2⟩:=cls012 R1.out;clear hO1 hK1)
  | (refine step_append_B rfl (.tmp 7) (.tmp 12) rfl w.heap.size v1 (D.p16 type) (by simp[Act.eval]) (by exact O1.out.alloc _) ⟨w1.heap.size,0,none⟩ 2 2 [x,y] (by simp[Act.eval]) rfl (by exact SlL.litm w1 [x,y] _ 5 (0,0) rfl) (by simp[p16_len]) (by simp;omega) ?_;intro v2 w2 hO2 hG2;have K2:=hide (Kp.app O1.out hG2 z1);have z2:w.heap.size<=w2.heap.size:=K2.out.size z1;have B2:=hide (B1.out.trans K2.out.1);have R2:=hide (K2.out.2 _ _ _ R1.out (by decide));have O2:=hide hO2;obtain⟨m0,m1,m2⟩:=cls012 R2.out;clear hG2 hO2)
  | (refine step_append_B rfl (.tmp 7) (.tmp 12) rfl w.heap.size v1 (D.p16 type) (by simp[Act.eval]) (by exact O1.out) _ 2 2 [x,y] (by simp[Act.eval];rfl) rfl (by exact SL.out) (by simp[p16_len]) z1 ?_;intro v2 w2 hO2 hG2;have K2:=hide (Kp.grown O1.out hG2 z1);have z2:w.heap.size<=w2.heap.size:=K2.out.size z1;have B2:=hide (B1.out.trans K2.out.1);have R2:=hide (K2.out.2 _ _ _ R1.out (by decide));have O2:=hide hO2;obtain⟨m0,m1,m2⟩:=cls012 R2.out;clear hG2 hO2)))
 all_goals
  clear B0 R0 B1 R1 O1 m0 m1 m2 K2
  try clear SL
  have L2:Hid ((D.p16 type ++ [x,y]).length<=4):=by show _<=_;simp[p16_len]
  obtain⟨q,hq⟩ : ∃ q,D.p16 type ++ [x,y]=q:=⟨_,rfl⟩
  rw[hq] at O2 L2
  have HQ:=hide hq
  clear hq
  go_wp2
  replace O2:Hid (OwnB w2.drew w.heap.size v2 q):=hide (by exact O2.out)
  replace B2:=hide B2.out.drew
  replace R2:=hide R2.out.drew
  replace z2:w.heap.size<=w2.drew.heap.size:=z2
  have m3:w2.drew.cell? ⟨w.heap.size,3,none⟩=some (.int .u32 (ttl:Int)):=R2.out.cell 3
  have m4:w2.drew.cell? ⟨w.heap.size,4,none⟩=some (.int .u32 (expire:Int)):=R2.out.cell 4
  have m5:w2.drew.cell? ⟨w.heap.size,5,none⟩=some (.int .u32 (begin_:Int)):=R2.out.cell 5
  go_region_held3 (fun w'=>w'.cell? ⟨w.heap.size,3,none⟩=some (.int .u32 (ttl:Int))/\w'.cell? ⟨w.heap.size,4,none⟩=some (.int .u32 (expire:Int))/\w'.cell? ⟨w.heap.size,5,none⟩=some (.int .u32 (begin_:Int))) ((first | (with_reducible exact⟨m3,m4,m5⟩) | exact⟨m3,m4,m5⟩)) ((first
   | (refine step_fn 141 #[.tmp 14,.tmp 16,.const (.int .i64 4)] _ rfl rfl #[v2,.int .u32 (ttl:Int),.int .i64 ((4:Nat):Int)] (by go_simp) (put_any ttl 4 (by omega) w.heap.size v2 (q) _ O2.out z2 (by have:=L2.out;first | omega | (simp only[List.length_append,p32_len];omega))) (by rintro e w' ⟨v,rfl,_⟩;exact⟨v,rfl⟩) ?_;rintro v3 w3 ⟨_,he,hO3,hK3⟩;cases he;have z3:w.heap.size<=w3.heap.size:=hK3.size z2;have B3:=hide (B2.out.trans hK3.1);have R3:=hide (hK3.2 _ _ _ R2.out (by decide));rw[D.put_4] at hO3;have O3:=hide hO3;obtain⟨m3,m4,m5⟩:=cls345 R3.out;clear hO3 hK3)
   | (refine step_fn 141 #[.tmp 17,.tmp 19,.const (.int .i64 4)] _ rfl rfl #[v3,.int .u32 (expire:Int),.int .i64 ((4:Nat):Int)] (by go_simp) (put_any expire 4 (by omega) w.heap.size v3 (q++D.p32 ttl) _ O3.out z3 (by have:=L2.out;first | omega | (simp only[List.length_append,p32_len];omega))) (by rintro e w' ⟨v,rfl,_⟩;exact⟨v,rfl⟩) ?_;rintro v4 w4 ⟨_,he,hO4,hK4⟩;cases he;have z4:w.heap.size<=w4.heap.size:=hK4.size z3;have B4:=hide (B3.out.trans hK4.1);have R4:=hide (hK4.2 _ _ _ R3.out (by decide));rw[D.put_4] at hO4;have O4:=hide hO4;obtain⟨m3,m4,m5⟩:=cls345 R4.out;clear hO4 hK4)
   | (refine step_fn 141 #[.tmp 20,.tmp 22,.const (.int .i64 4)] _ rfl rfl #[v4,.int .u32 (begin_:Int),.int .i64 ((4:Nat):Int)] (by go_simp) (put_any begin_ 4 (by omega) w.heap.size v4 (q++D.p32 ttl++D.p32 expire) _ O4.out z4 (by have:=L2.out;first | omega | (simp only[List.length_append,p32_len];omega))) (by rintro e w' ⟨v,rfl,_⟩;exact⟨v,rfl⟩) ?_;rintro v5 w5 ⟨_,he,hO5,hK5⟩;cases he;have z5:w.heap.size<=w5.heap.size:=hK5.size z4;have B5:=hide (B4.out.trans hK5.1);have R5:=hide (hK5.2 _ _ _ R4.out (by decide));rw[D.put_4] at hO5;have O5:=hide hO5;obtain⟨m3,m4,m5⟩:=cls345 R5.out;clear hO5 hK5)))
  all_goals
   clear B2 R2 O2 B3 R3 O3 B4 R4 O4 m3 m4 m5
   have L5:Hid ((q++D.p32 ttl++D.p32 expire++D.p32 begin_).length<=16):=by have:=L2.out;show _<=_;simp only[List.length_append,p32_len];omega
   obtain⟨q5,hq5⟩ : ∃ q5,q++D.p32 ttl++D.p32 expire++D.p32 begin_=q5:=⟨_,rfl⟩
   rw[hq5] at O5 L5
   have HQ5:=hide hq5
   clear hq5
   go_wp2
   replace O5:Hid (OwnB w5.drew w.heap.size v5 q5):=hide (by exact O5.out)
   replace B5:=hide B5.out.drew
   replace R5:=hide R5.out.drew
   replace z5:w.heap.size<=w5.drew.heap.size:=z5
   have m6:w5.drew.cell? ⟨w.heap.size,6,none⟩=some (.int .u16 (tag:Int)):=R5.out.cell 6
   have m7:w5.drew.cell? ⟨w.heap.size,7,none⟩=some (.slice a1 n1 c1):=R5.out.cell 7
   have m8:w5.drew.cell? ⟨w.heap.size,8,none⟩=some (.slice a2 n2 c2):=R5.out.cell 8
   go_region_held3 (fun w'=>w'.cell? ⟨w.heap.size,6,none⟩=some (.int .u16 (tag:Int))/\w'.cell? ⟨w.heap.size,7,none⟩=some (.slice a1 n1 c1)/\w'.cell? ⟨w.heap.size,8,none⟩=some (.slice a2 n2 c2)) ((first | (with_reducible exact⟨m6,m7,m8⟩) | exact⟨m6,m7,m8⟩)) ((first
    | (refine step_fn 141 #[.tmp 24,.tmp 27,.const (.int .i64 2)] _ rfl rfl #[v5,.int .u32 (tag:Int),.int .i64 ((2:Nat):Int)] (by go_simp) (put_any tag 2 (by omega) w.heap.size v5 q5 _ O5.out z5 (by have:=L5.out;omega)) (by rintro e w' ⟨v,rfl,_⟩;exact⟨v,rfl⟩) ?_;rintro v6 w6 ⟨_,he,hO6,hK6⟩;cases he;have z6:w.heap.size<=w6.heap.size:=hK6.size z5;have B6:=hide (B5.out.trans hK6.1);have R6:=hide (hK6.2 _ _ _ R5.out (by decide));rw[D.put_2] at hO6;have O6:=hide hO6;obtain⟨m6,m7,m8⟩:=cls678 R6.out;clear hO6 hK6)
    | (refine step_fn 47 #[.tmp 30] _ rfl rfl #[.slice a1 n1 c1] (by go_simp) (rWire_any signer a1 n1 c1 _ h1 (S1.out.below B6.out (Nat.le_refl _)) m1') (by rintro e w' ⟨v,rfl,_⟩;exact⟨v,rfl⟩) ?_;rintro v7 w7 ⟨_,he,hO7,hb7⟩;cases he;have R7:=hide (R6.out.below hb7 R6.out.lt);have OM:=hide (O6.out.below hb7);obtain⟨g9,c9,rfl,_,_,_,_,_⟩:=hO7.form (by simp[N.wire]);have S9:=hide hO7.sl;have z7:w.heap.size<=w7.heap.size:=Nat.le_trans z6 hb7.size;have B7:=hide (B6.out.trans (hb7.mono z6));obtain⟨m6,m7,m8⟩:=cls678 R7.out;clear hO7 hb7)
    | (refine step_append_B rfl (.tmp 28) (.tmp 31) rfl w.heap.size v6 (q5++D.p16 tag) (by simp[Act.eval]) OM.out ⟨g9,0,none⟩ (N.wire signer).length c9 (N.wire signer) (by simp[Act.eval]) rfl S9.out (by have:=HL1.out;have:=L5.out;simp only[List.length_append,p16_len];omega) z7 ?_;intro v8 w8 hO8 hG8;have K8:=hide (Kp.grown OM.out hG8 z7);have z8:w.heap.size<=w8.heap.size:=K8.out.size z7;have B8:=hide (B7.out.trans K8.out.1);have R8:=hide (K8.out.2 _ _ _ R7.out (by decide));have O8:=hide hO8;obtain⟨m6,m7,m8⟩:=cls678 R8.out;clear hG8 hO8)
    | (refine step_append_Bo rfl (.tmp 32) (.tmp 34) rfl w.heap.size v8 (q5++D.p16 tag++N.wire signer) (by simp[Act.eval]) O8.out a2 n2 c2 sig (by simp[Act.eval]) h2.out (S2.out.below B8.out (Nat.le_refl _)) NI.out (by have:=HL1.out;have:=L5.out;simp only[List.length_append,p16_len];omega) z8 ?_;intro v9 w9 hO9 hG9;have K9:=hide (Kp.grown O8.out hG9 z8);have B9:=hide (B8.out.trans K9.out.1);have R9:=hide (K9.out.2 _ _ _ R8.out (by decide));have O9:=hide hO9;obtain⟨m6,m7,m8⟩:=cls678 R9.out;clear hG9 hO9)))
   all_goals
    go_wp2
    go_ret
    exact⟨_,rfl,by rw[HQ.out,HQ5.out];exact O9.out,B9.out⟩
open Go.RowKit
namespace D
theorem nm_inv {b r:List UInt8} {n:List (List UInt8)} (h:nm b=some (n,r)):N.opn b=some n/\N.size n<=255:=by
 unfold nm at h
 rw[Option.bind_eq_some_iff] at h
 obtain⟨m,h1,h⟩:=h
 split at h
 ·rename_i hz;cases h;exact⟨h1,hz⟩
 ·cases h
theorem small_inv {b x r:List UInt8} (h:small b=some (x,r)) : ∃ n,nm b=some (n,r)/\x=N.wire (N.lowN n):=by
 unfold small at h
 rw[Option.map_eq_some_iff] at h
 obtain⟨⟨n,q⟩,h1,h2⟩:=h
 cases h2
 exact⟨n,h1,rfl⟩
theorem by_inv {k:Nat} {b x r:List UInt8} (h:by_ k b=some (x,r)):k<=b.length/\x=b.take k/\r=b.drop k:=by
 unfold by_ at h
 split at h
 ·cases h
 ·cases h;exact⟨by omega,rfl,rfl⟩
theorem can_plain {t:Nat} {b x:List UInt8} (h2:t≠2) (h5:t≠5) (h15:t≠15) (h6:t≠6) (h46:t≠46) (h:can t b=some (x, [])):x=b:=by
 by_cases h1:t=1
 ·subst h1;have:=(by_back (show by_ 4 b=some (x, []) from h)).1;rw[List.append_nil] at this;exact this.symm
 by_cases h28:t=28
 ·subst h28;have:=(by_back (show by_ 16 b=some (x, []) from h)).1;rw[List.append_nil] at this;exact this.symm
 by_cases h16:t=16
 ·subst h16
  have h:txt b=some (x, []):=h
  unfold txt at h
  split at h
  ·cases h;rfl
  ·cases h
 by_cases h43:t=43
 ·subst h43
  have h:((by_ 5 b).map fun p=>(p.1++p.2, []))=some (x, []):=h
  rw[Option.map_eq_some_iff] at h
  obtain⟨⟨p,q⟩,g1,g2⟩:=h
  cases g2
  exact (by_back g1).1.symm
 by_cases h48:t=48
 ·subst h48
  have h:((key b).map fun p=>(keyB p.1,p.2))=some (x, []):=h
  rw[Option.map_eq_some_iff] at h
  obtain⟨⟨p,q⟩,g1,g2⟩:=h
  cases g2
  have:=(key_back g1).1
  rw[List.append_nil] at this;exact this.symm
 by_cases h50:t=50
 ·subst h50
  have h:((chain b).map fun p=>(chainB p.1,p.2))=some (x, []):=h
  rw[Option.map_eq_some_iff] at h
  obtain⟨⟨p,q⟩,g1,g2⟩:=h
  cases g2
  have:=(chain_back g1).1
  rw[List.append_nil] at this;exact this.symm
 by_cases h51:t=51
 ·subst h51
  have h:((by_ 4 b).bind fun p=>(cnt p.2).map fun q=>(p.1++pc q.1,q.2))=some (x, []):=h
  rw[Option.bind_eq_some_iff] at h
  obtain⟨⟨p,q⟩,g1,g2⟩:=h
  rw[Option.map_eq_some_iff] at g2
  obtain⟨⟨p2,q2⟩,g3,g4⟩:=g2
  cases g4
  have e1:=(by_back g1).1
  have e2:=(cnt_back g3).1
  simp only at e2
  rw[List.append_nil] at e2
  rw[e1,e2]
 have e:can t b=some (b, []):=by simp[can,h1,h28,h2,h5,h15,h6,h16,h43,h46,h48,h50,h51]
 rw[e] at h
 cases h;rfl
end D
theorem rOpen_nm (b:List UInt8) (ao:Option Addr) (len cap:Nat) (w:World) (hl:Hid (b.length=len)) (hs:SlL w ao b) (hm:len<=1000000000) (hcap:len<=cap) {n:List (List UInt8)} {r:List UInt8} (h:D.nm b=some (n,r)) :
 Calls Tryz.prog 140 #[.slice ao len cap] w fun e w' => ∃ a c,e = .returned (.tuple #[.slice a n.length c,.int .i64 (N.size n:Int),.int .i64 0])/\OwnS w' w.heap.size (.slice a n.length c) n/\Below w.heap.size w w':=by
 obtain⟨h1,h2⟩:=D.nm_inv h
 refine (rOpen_any b ao len cap w hl hs hm hcap).mono ?_
 rintro e w1 ⟨⟨m,v,hn,hz,rfl,hO⟩ | ⟨hn,rfl⟩ | ⟨m,hn,hz,rfl⟩,hb⟩
 ·rw[h1] at hn;cases hn
  obtain⟨a,c,rfl,_⟩:=hO.open
  exact⟨a,c,rfl,hO,hb⟩
 ·rw[h1] at hn;cases hn
 ·rw[h1] at hn;cases hn;omega
set_option maxHeartbeats 800000 in
theorem rcan_2 (b:List UInt8) (ao:Option Addr) (len cap:Nat) (w:World) (hl:Hid (b.length=len)) (hs:SlL w ao b) (hc:len<=cap) (hnil:ao=none->cap=0) (h8:len<=8192) :
 Calls Tryz.prog 125 #[.int .u16 2,.slice ao len cap] w fun e w'=>Ans (D.full b (D.can 2 b)) BytesV (.slice none 0 0) w e w':=by
 have HS:=hide hs
 have NI:=hide hnil
 cases hx:D.full b (D.can 2 b) with
 | none =>
  have HC:Hid (codeOf (D.full b (D.can 2 b))=50):=by show _=_;rw[hx];rfl
  clear hs hnil
  go_enter Tryz.func125,Tryz.ntmps125
  go_wp2_with fail
  refine (chk_2 b ao len cap _ hl (by exact HS.out) hc NI.out h8).mono ?_
  rintro e w1 ⟨rfl,hb1⟩
  rw[HC.out]
  go_wp2
  go_ret2
  exact⟨Or.inr ⟨rfl,rfl⟩,hb1⟩
 | some x =>
  have HC:Hid (codeOf (D.full b (D.can 2 b))=0):=by show _=_;rw[hx];rfl
  have hx2:=(D.full_iff.1 hx).2
  obtain⟨n,hn,rfl⟩:=D.small_inv (show D.small b=some (x, []) from hx2)
  have hg:=(D.nm_back hn).2
  have hz:N.size (N.lowN n)<=1000:=by rw[D.size_low];have:=hg.2.2;omega
  have m1:=hide (good_small hg)
  have m2:=hide (small_of hz)
  have HN:=hide hn
  clear hs hnil hn hg hx2 hx
  go_enter Tryz.func125,Tryz.ntmps125
  go_wp2_with fail
  refine (chk_2 b _ len cap _ hl (by exact HS.out) hc NI.out h8).mono ?_
  rintro e w1 ⟨rfl,hb1⟩
  rw[HC.out]
  have B1:=hide hb1
  clear hb1
  go_wp2_with fail
  refine (rOpen_nm b _ len cap _ hl (by exact HS.out.below B1.out (Nat.le_refl _)) (by omega) hc HN.out).mono ?_
  rintro e w2 ⟨a3,c3,rfl,hO,hb2⟩
  have B2:=hide (B1.out.trans (hb2.mono B1.out.size))
  have S2:=hide hO.sl
  clear hO hb2 B1
  go_wp2_with fail
  refine (rLower_any n a3 n.length c3 _ rfl (by exact S2.out) m1).mono ?_
  rintro e w3 ⟨v3,rfl,hO3,hb3⟩
  obtain⟨a4,c4,rfl,hs4,_⟩:=hO3.open
  have B3:=hide (B2.out.trans (hb3.mono B2.out.size))
  have S4:=hide hs4
  clear hO3 hb3 hs4 B2
  go_wp2_with fail
  refine (rWire_any (N.lowN n) a4 (N.lowN n).length c4 _ rfl (by exact S4.out) m2).mono ?_
  rintro e w4 ⟨v4,rfl,hO4,hb4⟩
  go_wp2
  go_ret2
  exact⟨Or.inl ⟨_,_,rfl,rfl,hO4.lower B3.out.size⟩,B3.out.trans (hb4.mono B3.out.size)⟩
set_option maxHeartbeats 800000 in
theorem rcan_5 (b:List UInt8) (ao:Option Addr) (len cap:Nat) (w:World) (hl:Hid (b.length=len)) (hs:SlL w ao b) (hc:len<=cap) (hnil:ao=none->cap=0) (h8:len<=8192) :
 Calls Tryz.prog 125 #[.int .u16 5,.slice ao len cap] w fun e w'=>Ans (D.full b (D.can 5 b)) BytesV (.slice none 0 0) w e w':=by
 have HS:=hide hs
 have NI:=hide hnil
 cases hx:D.full b (D.can 5 b) with
 | none =>
  have HC:Hid (codeOf (D.full b (D.can 5 b))=50):=by show _=_;rw[hx];rfl
  clear hs hnil
  go_enter Tryz.func125,Tryz.ntmps125
  go_wp2_with fail
  refine (chk_5 b ao len cap _ hl (by exact HS.out) hc NI.out h8).mono ?_
  rintro e w1 ⟨rfl,hb1⟩
  rw[HC.out]
  go_wp2
  go_ret2
  exact⟨Or.inr ⟨rfl,rfl⟩,hb1⟩
 | some x =>
  have HC:Hid (codeOf (D.full b (D.can 5 b))=0):=by show _=_;rw[hx];rfl
  have hx2:=(D.full_iff.1 hx).2
  obtain⟨n,hn,rfl⟩:=D.small_inv (show D.small b=some (x, []) from hx2)
  have hg:=(D.nm_back hn).2
  have hz:N.size (N.lowN n)<=1000:=by rw[D.size_low];have:=hg.2.2;omega
  have m1:=hide (good_small hg)
  have m2:=hide (small_of hz)
  have HN:=hide hn
  clear hs hnil hn hg hx2 hx
  go_enter Tryz.func125,Tryz.ntmps125
  go_wp2_with fail
  refine (chk_5 b _ len cap _ hl (by exact HS.out) hc NI.out h8).mono ?_
  rintro e w1 ⟨rfl,hb1⟩
  rw[HC.out]
  have B1:=hide hb1
  clear hb1
  go_wp2_with fail
  refine (rOpen_nm b _ len cap _ hl (by exact HS.out.below B1.out (Nat.le_refl _)) (by omega) hc HN.out).mono ?_
  rintro e w2 ⟨a3,c3,rfl,hO,hb2⟩
  have B2:=hide (B1.out.trans (hb2.mono B1.out.size))
  have S2:=hide hO.sl
  clear hO hb2 B1
  go_wp2_with fail
  refine (rLower_any n a3 n.length c3 _ rfl (by exact S2.out) m1).mono ?_
  rintro e w3 ⟨v3,rfl,hO3,hb3⟩
  obtain⟨a4,c4,rfl,hs4,_⟩:=hO3.open
  have B3:=hide (B2.out.trans (hb3.mono B2.out.size))
  have S4:=hide hs4
  clear hO3 hb3 hs4 B2
  go_wp2_with fail
  refine (rWire_any (N.lowN n) a4 (N.lowN n).length c4 _ rfl (by exact S4.out) m2).mono ?_
  rintro e w4 ⟨v4,rfl,hO4,hb4⟩
  go_wp2
  go_ret2
  exact⟨Or.inl ⟨_,_,rfl,rfl,hO4.lower B3.out.size⟩,B3.out.trans (hb4.mono B3.out.size)⟩
set_option maxHeartbeats 800000 in
theorem rcan_15 (b:List UInt8) (ao:Option Addr) (len cap:Nat) (w:World) (hl:Hid (b.length=len)) (hs:SlL w ao b) (hc:len<=cap) (hnil:ao=none->cap=0) (h8:len<=8192) :
 Calls Tryz.prog 125 #[.int .u16 15,.slice ao len cap] w fun e w'=>Ans (D.full b (D.can 15 b)) BytesV (.slice none 0 0) w e w':=by
 have HS:=hide hs
 have NI:=hide hnil
 cases hx:D.full b (D.can 15 b) with
 | none =>
  have HC:Hid (codeOf (D.full b (D.can 15 b))=50):=by show _=_;rw[hx];rfl
  clear hs hnil
  go_enter Tryz.func125,Tryz.ntmps125
  go_wp2_with fail
  refine (chk_15 b ao len cap _ hl (by exact HS.out) hc NI.out h8).mono ?_
  rintro e w1 ⟨rfl,hb1⟩
  rw[HC.out]
  go_wp2
  go_ret2
  exact⟨Or.inr ⟨rfl,rfl⟩,hb1⟩
 | some x =>
  have HC:Hid (codeOf (D.full b (D.can 15 b))=0):=by show _=_;rw[hx];rfl
  have hx2:=(D.full_iff.1 hx).2
  have hq:((D.by_ 2 b).bind fun p=>(D.small p.2).map fun q=>(p.1++q.1,q.2))=some (x, []):=hx2
  rw[Option.bind_eq_some_iff] at hq
  obtain⟨⟨p,q⟩,hp,hq⟩:=hq
  obtain⟨k2,rfl,rfl⟩:=D.by_inv hp
  rw[Option.map_eq_some_iff] at hq
  obtain⟨⟨y,r⟩,hy,he⟩:=hq
  simp only at he hy
  obtain⟨n,hn,rfl⟩:=D.small_inv hy
  cases he
  have hg:=(D.nm_back hn).2
  have hz:N.size (N.lowN n)<=1000:=by rw[D.size_low];have:=hg.2.2;omega
  have HW:=hide (N.wire_len (N.lowN n))
  have m1:=hide (good_small hg)
  have m2:=hide (small_of hz)
  have hlen:=hl.out
  have hne:0<b.length:=by omega
  obtain⟨blk,o,rfl,hblt,hcell⟩:=hs hne
  obtain⟨ad1,r1,s1⟩:=cut_hd 2 hs hl.out (by omega) hc
  obtain⟨ad2,r2,s2⟩:=cut_tl 2 hs hl.out (by omega) hc
  replace r1 : ∀ W,(Instr.slice 37 (.slice (some ⟨blk,o,none⟩) len cap) none (some (.int .i64 2)) none).run Tryz.prog W = .ok (.slice (some ad1) 2 cap) W:=r1
  replace r2 : ∀ W,(Instr.slice 37 (.slice (some ⟨blk,o,none⟩) len cap) (some (.int .i64 2)) none none).run Tryz.prog W = .ok (.slice (some ad2) (len - 2) (cap - 2)) W:=r2
  have S1:=hide s1
  have S2:=hide s2
  have HN:=hide hn
  have hd:Hid ((b.drop 2).length=len - 2):=by show _=_;rw[List.length_drop];omega
  have ht:(b.take 2).length=2:=by rw[List.length_take];omega
  clear hs hcell s1 s2 hnil hn hp hg hx2 hx hy
  go_enter Tryz.func125,Tryz.ntmps125
  go_wp2_with fail
  refine (chk_15 b _ len cap _ hl (by exact HS.out) hc NI.out h8).mono ?_
  rintro e w1 ⟨rfl,hb1⟩
  rw[HC.out]
  have B1:=hide hb1
  clear hb1
  go_wp2_with fail
  refine (rOpen_nm (b.drop 2) (some ad2) (len - 2) (cap - 2) _ hd (by exact S2.out.below B1.out (Nat.le_refl _)) (by omega) (by omega) HN.out).mono ?_
  rintro e w2 ⟨a3,c3,rfl,hO,hb2⟩
  have B2:=hide (B1.out.trans (hb2.mono B1.out.size))
  have O2:=hide hO
  clear hO hb2 B1
  go_wp2_with (at_builtin;refine wpList_append_B rfl (.const (.slice none 0 0)) (.tmp 43) rfl w2.heap.size _ [] rfl (by exact OwnB.nil _ _) _ _ _ (b.take 2) rfl ht (by exact S1.out.below B2.out (Nat.le_refl _)) (by intro h;cases h) (by simp) (Nat.le_refl _) ?_;intro v6 w6 hO6 hG6;have hb6:=nil_grown0 hG6;rw[List.nil_append] at hO6;have S2:=hide (O2.out.below hb6).sl;have B6:=hide (B2.out.trans (hb6.mono B2.out.size));have O6:=hide (hO6.lower B2.out.size);clear hG6 hO6 hb6 O2 B2)
  refine (rLower_any n a3 n.length c3 _ rfl (by exact S2.out) m1).mono ?_
  rintro e w3 ⟨v3,rfl,hO3,hb3⟩
  obtain⟨a4,c4,rfl,hs4,_⟩:=hO3.open
  have B3:=hide (B6.out.trans (hb3.mono B6.out.size))
  have O7:=hide (O6.out.below hb3)
  have S4:=hide hs4
  clear hO3 hb3 hs4 B6 O6 S2
  go_wp2_with fail
  refine (rWire_any (N.lowN n) a4 (N.lowN n).length c4 _ rfl (by exact S4.out) m2).mono ?_
  rintro e w4 ⟨v4,rfl,hO4,hb4⟩
  have B4:=hide (B3.out.trans (hb4.mono B3.out.size))
  have O8:=hide (O7.out.below hb4)
  obtain⟨a9,c9,rfl,hs9,hn9,_⟩:=hO4.open
  have S9:=hide hs9
  have N9:=hide hn9
  have z4:w.heap.size<=w4.heap.size:=B4.out.size
  clear hO4 hb4 hs9 hn9 B3 O7 S4
  go_wp2_with (at_builtin;refine wpList_append_B rfl (.tmp 44) (.tmp 47) rfl w.heap.size _ (b.take 2) rfl (by exact O8.out) _ _ _ (N.wire (N.lowN n)) rfl rfl (by exact S9.out) N9.out (by have:=HW.out;omega) z4 ?_;intro v10 w10 hO10 hG10;have hK10:=Kp.grown O8.out hG10 z4;clear hG10)
  go_ret2
  exact⟨Or.inl ⟨_,_,rfl,rfl,hO10⟩,B4.out.trans hK10.1⟩
set_option maxHeartbeats 800000 in
theorem rcan_else (t:Nat) (b:List UInt8) (ao:Option Addr) (len cap:Nat) (w:World) (hl:Hid (b.length=len)) (hs:SlL w ao b) (hc:len<=cap) (hnil:ao=none->cap=0) (h8:len<=8192) (h2:t≠2) (h5:t≠5) (h15:t≠15) (h6:t≠6) (h46:t≠46) :
 Calls Tryz.prog 125 #[.int .u16 (t:Int),.slice ao len cap] w fun e w'=>Ans (D.full b (D.can t b)) BytesV (.slice none 0 0) w e w':=by
 have HS:=hide hs
 have NI:=hide hnil
 cases hx:D.full b (D.can t b) with
 | none =>
  have HC:Hid (codeOf (D.full b (D.can t b))=50):=by show _=_;rw[hx];rfl
  clear hs hnil
  go_enter Tryz.func125,Tryz.ntmps125
  go_wp2_with fail
  refine (sCheck_any t b ao len cap _ hl (by exact HS.out) hc NI.out h8).mono ?_
  rintro e w1 ⟨rfl,hb1⟩
  rw[HC.out]
  go_wp2
  go_ret2
  exact⟨Or.inr ⟨rfl,rfl⟩,hb1⟩
 | some x =>
  have HC:Hid (codeOf (D.full b (D.can t b))=0):=by show _=_;rw[hx];rfl
  obtain rfl:=D.can_plain h2 h5 h15 h6 h46 (D.full_iff.1 hx).2
  have b2:((t:Int) == 2)=false:=beq_eq_false_iff_ne.2 (by omega)
  have b5:((t:Int) == 5)=false:=beq_eq_false_iff_ne.2 (by omega)
  have b15:((t:Int) == 15)=false:=beq_eq_false_iff_ne.2 (by omega)
  have b6:((t:Int) == 6)=false:=beq_eq_false_iff_ne.2 (by omega)
  have b46:((t:Int) == 46)=false:=beq_eq_false_iff_ne.2 (by omega)
  clear hs hnil h2 h5 h15 h6 h46 hx
  go_enter Tryz.func125,Tryz.ntmps125
  go_wp2_with fail
  refine (sCheck_any t x ao len cap _ hl (by exact HS.out) hc NI.out h8).mono ?_
  rintro e w1 ⟨rfl,hb1⟩
  rw[HC.out]
  have B1:=hide hb1
  clear hb1
  go_wp2_with (at_builtin;refine wpList_append_B rfl (.const (.slice none 0 0)) (.tmp 79) rfl w1.heap.size _ [] rfl (by exact OwnB.nil _ _) _ _ _ x rfl hl.out (by exact HS.out.below B1.out (Nat.le_refl _)) NI.out (by simp;omega) (Nat.le_refl _) ?_;intro v6 w6 hO6 hG6;have hb6:=nil_grown0 hG6;rw[List.nil_append] at hO6;clear hG6)
  go_ret2
  exact⟨Or.inl ⟨_,_,rfl,rfl,hO6.lower B1.out.size⟩,B1.out.trans (hb6.mono B1.out.size)⟩
open Go.RowKit
set_option maxHeartbeats 1600000 in
theorem rcan_6 (b:List UInt8) (ao:Option Addr) (len cap:Nat) (w:World) (hl:Hid (b.length=len)) (hs:SlL w ao b) (hc:len<=cap) (hnil:ao=none->cap=0) (h8:len<=8192) :
 Calls Tryz.prog 125 #[.int .u16 6,.slice ao len cap] w fun e w'=>Ans (D.full b (D.can 6 b)) BytesV (.slice none 0 0) w e w':=by
 have HS:=hide hs
 have NB:=hide hnil
 cases hx:D.full b (D.can 6 b) with
 | none =>
  have HC:Hid (codeOf (D.full b (D.can 6 b))=50):=by show _=_;rw[hx];rfl
  clear hs hnil
  go_enter Tryz.func125,Tryz.ntmps125
  go_wp2_with fail
  refine (chk_6 b ao len cap _ hl (by exact HS.out) hc NB.out h8).mono ?_
  rintro e w1 ⟨rfl,hb1⟩
  rw[HC.out]
  go_wp2
  go_ret2
  exact⟨Or.inr ⟨rfl,rfl⟩,hb1⟩
 | some x =>
  have HC:Hid (codeOf (D.full b (D.can 6 b))=0):=by show _=_;rw[hx];rfl
  obtain⟨h8',hx2⟩:=D.full_iff.1 hx
  have hq:((D.soa b).map fun p=>(D.soaB p.1.low,p.2))=some (x, []):=hx2
  rw[Option.map_eq_some_iff] at hq
  obtain⟨⟨s,r⟩,hso,he⟩:=hq
  cases he
  have HSO:Hid (D.full b (D.soa b)=some s):=D.full_some h8' hso
  have hk:=(D.soa_back hso).2
  have hlen:=congrArg List.length (D.soa_back hso).1
  clear hs hnil hx2 hx hso
  go_enter Tryz.func125,Tryz.ntmps125
  go_wp2_with fail
  refine (chk_6 b ao len cap _ hl (by exact HS.out) hc NB.out h8).mono ?_
  rintro e p1 ⟨rfl,hb1⟩
  rw[HC.out]
  have P1:=hide hb1
  clear hb1
  go_wp2_with fail
  refine (sSoa_any b ao len cap _ hl (by exact HS.out.below P1.out (Nat.le_refl _)) hc NB.out h8).mono ?_
  rw[HSO.out]
  rintro e u ⟨⟨s',v,ho,rfl,hv⟩ | ⟨ho,_⟩,hb2⟩
  rotate_left
  ·cases ho
  cases ho
  have P2:=hide (P1.out.trans (hb2.mono P1.out.size))
  obtain⟨a1,c1,a2,c2,rfl,hO1,hO2⟩:=hv
  clear hb2 P1 HSO
  clear hlen
  obtain⟨main,box,a,b5,c,d,e⟩:=s
  obtain⟨k1,k2,k3,k4,k5,k6,k7⟩:=hk
  have S1:=hide (OwnS.sl hO1)
  have S2:=hide (OwnS.sl hO2)
  clear hO1 hO2
  simp only at S1 S2 k1 k2 k3 k4 k5 k6 k7 ⊢
  have m1:=hide (good_small k1)
  have m2:=hide (good_small k2)
  have hz1:N.size (N.lowN main)<=1000:=by rw[D.size_low];have:=k1.2.2;omega
  have hz2:N.size (N.lowN box)<=1000:=by rw[D.size_low];have:=k2.2.2;omega
  have R0:=hide (RowAt.new u 166 #[.slice a1 main.length c1,.slice a2 box.length c2,.int .u32 (a:Int),.int .u32 (b5:Int),.int .u32 (c:Int),.int .u32 (d:Int),.int .u32 (e:Int)])
  have B0:=hide ((Below.refl u.heap.size u).alloc (Nat.le_refl _) (.cells #[.slice a1 main.length c1,.slice a2 box.length c2,.int .u32 (a:Int),.int .u32 (b5:Int),.int .u32 (c:Int),.int .u32 (d:Int),.int .u32 (e:Int)] 166))
  clear k1 k2
  go_wp2
  go_region_law (first
   | (refine step_fn 61 _ _ rfl rfl #[.slice a1 main.length c1] (by go_simp) (rLower_any main a1 main.length c1 _ rfl (by exact S1.out.alloc _) m1) (by rintro e w' ⟨v,rfl,_⟩;exact⟨v,rfl⟩) ?_;rintro v1 w1 ⟨_,he,hO1,hb1⟩;cases he;have R1:=hide (RowAt.below (by exact R0.out) hb1 (by simp <;> omega));have p1:w1.cell? ⟨u.heap.size,1,none⟩=some (.slice a2 box.length c2):=R1.out.cell 1;have O1:=hide (OwnS.lower (base':=u.heap.size) hO1 (by simp <;> omega));have z1:u.heap.size<=w1.heap.size:=Nat.le_trans (by simp <;> omega) hb1.size;have B1:=hide ((below_allocs B0.out (Nat.le_refl _) (Or.inl rfl)).trans (hb1.mono (by simp <;> omega)));clear hO1 hb1)
   | (refine step_fn 61 _ _ rfl rfl #[.slice a2 box.length c2] (by go_simp) (rLower_any box a2 box.length c2 _ rfl (by exact S2.out.below B1.out (Nat.le_refl _)) m2) (by rintro e w' ⟨v,rfl,_⟩;exact⟨v,rfl⟩) ?_;rintro v2 w2 ⟨_,he,hO2,hb2⟩;cases he;have hrow:=R1.out.below hb2 R1.out.lt;obtain⟨a3,c3,rfl,_,_,_⟩:=O1.out.open;obtain⟨a4,c4,rfl,_,_,_⟩:=hO2.open;have g0:w2.cell? ⟨u.heap.size,0,none⟩=some (.slice a1 main.length c1):=hrow.cell 0;have g1:w2.cell? ⟨u.heap.size,1,none⟩=some (.slice a2 box.length c2):=hrow.cell 1;have g2:w2.cell? ⟨u.heap.size,2,none⟩=some (.int .u32 (a:Int)):=hrow.cell 2;have g3:w2.cell? ⟨u.heap.size,3,none⟩=some (.int .u32 (b5:Int)):=hrow.cell 3;have g4:w2.cell? ⟨u.heap.size,4,none⟩=some (.int .u32 (c:Int)):=hrow.cell 4;have g5:w2.cell? ⟨u.heap.size,5,none⟩=some (.int .u32 (d:Int)):=hrow.cell 5;have g6:w2.cell? ⟨u.heap.size,6,none⟩=some (.int .u32 (e:Int)):=hrow.cell 6;have e0:=hrow.frozen 0;have e1:=hrow.frozen 1;have O3:=hide (O1.out.below hb2);have O4:=hide (OwnS.lower (base':=u.heap.size) hO2 z1);have R2:=hide hrow;have B2:=hide (B1.out.trans (hb2.mono z1));clear hrow hO2 hb2 O1))
  all_goals
   have O5:=hide (own_set (own_set O3.out R2.out (by decide) 0 (.slice a3 (N.lowN main).length c3)) (R2.out.set 0 (.slice a3 (N.lowN main).length c3)) (by decide) 1 (.slice a4 (N.lowN box).length c4))
   have O6:=hide (own_set (own_set O4.out R2.out (by decide) 0 (.slice a3 (N.lowN main).length c3)) (R2.out.set 0 (.slice a3 (N.lowN main).length c3)) (by decide) 1 (.slice a4 (N.lowN box).length c4))
   have B5:=hide (setNew_below (g:=u.heap.size) (j:=1) (v := .slice a4 (N.lowN box).length c4) (setNew_below (g:=u.heap.size) (j:=0) (v := .slice a3 (N.lowN main).length c3) B2.out (Nat.le_refl _)) (Nat.le_refl _))
   clear O3 O4 B2 R2 R1 B1 R0 B0
   go_wp2_with fail
   refine (sSoaBytes_any ⟨N.lowN main,N.lowN box,a,b5,c,d,e⟩ a3 a4 (N.lowN main).length c3 (N.lowN box).length c4 _ rfl rfl (by exact OwnS.sl O5.out) (by exact OwnS.sl O6.out) hz1 hz2 k3 k4 k5 k6 k7).mono ?_
   rintro e w3 ⟨v3,rfl,hO3,hb3⟩
   go_wp2
   go_ret2
   have hz:=B5.out.size
   exact⟨Or.inl ⟨_,_,rfl,rfl,(hO3.lower hz).lower P2.out.size⟩,P2.out.trans ((B5.out.trans (hb3.mono hz)).mono P2.out.size)⟩
set_option maxHeartbeats 1600000 in
theorem rcan_46 (b:List UInt8) (ao:Option Addr) (len cap:Nat) (w:World) (hl:Hid (b.length=len)) (hs:SlL w ao b) (hc:len<=cap) (hnil:ao=none->cap=0) (h8:len<=8192) :
 Calls Tryz.prog 125 #[.int .u16 46,.slice ao len cap] w fun e w'=>Ans (D.full b (D.can 46 b)) BytesV (.slice none 0 0) w e w':=by
 have HS:=hide hs
 have NB:=hide hnil
 cases hx:D.full b (D.can 46 b) with
 | none =>
  have HC:Hid (codeOf (D.full b (D.can 46 b))=50):=by show _=_;rw[hx];rfl
  clear hs hnil
  go_enter Tryz.func125,Tryz.ntmps125
  go_wp2_with fail
  refine (chk_46 b ao len cap _ hl (by exact HS.out) hc NB.out h8).mono ?_
  rintro e w1 ⟨rfl,hb1⟩
  rw[HC.out]
  go_wp2
  go_ret2
  exact⟨Or.inr ⟨rfl,rfl⟩,hb1⟩
 | some x =>
  have HC:Hid (codeOf (D.full b (D.can 46 b))=0):=by show _=_;rw[hx];rfl
  obtain⟨h8',hx2⟩:=D.full_iff.1 hx
  have hq:((D.sig b).map fun p=>(D.sigB p.1.low,p.2))=some (x, []):=hx2
  rw[Option.map_eq_some_iff] at hq
  obtain⟨⟨s,r⟩,hso,he⟩:=hq
  cases he
  have HSO:Hid (D.full b (D.sig b)=some s):=D.full_some h8' hso
  have hk:=(D.sig_back hso).2.2
  have hlen:=congrArg List.length (D.sig_back hso).1
  clear hs hnil hx2 hx hso
  go_enter Tryz.func125,Tryz.ntmps125
  go_wp2_with fail
  refine (chk_46 b ao len cap _ hl (by exact HS.out) hc NB.out h8).mono ?_
  rintro e p1 ⟨rfl,hb1⟩
  rw[HC.out]
  have P1:=hide hb1
  clear hb1
  go_wp2_with fail
  refine (sSig_any b ao len cap _ hl (by exact HS.out.below P1.out (Nat.le_refl _)) hc NB.out h8).mono ?_
  rw[HSO.out]
  rintro e u ⟨⟨s',v,ho,rfl,hv⟩ | ⟨ho,_⟩,hb2⟩
  rotate_left
  ·cases ho
  cases ho
  have P2:=hide (P1.out.trans (hb2.mono P1.out.size))
  obtain⟨a1,c1,a2,c2,rfl,hO1,hO2⟩:=hv
  clear hb2 P1 HSO
  obtain⟨type,alg,labels,ttl,expire,begin_,tag,signer,sig⟩:=s
  obtain⟨k1,k2,k3,k4,k5,k6,k7,k8⟩:=hk
  have hz2:sig.length<=100000:=by rw[hl.out] at hlen;simp[D.sigB] at hlen;omega
  have S1:=hide (OwnS.sl hO1)
  have S2:=hide (OwnB.slOf hO2).1
  have NI:=hide (OwnB.slOf hO2).2
  clear hO1 hO2 hlen
  simp only at S1 S2 NI k1 k2 k3 k4 k5 k6 k7 k8 ⊢
  have m1:=hide (good_small k8)
  have hz1:N.size (N.lowN signer)<=1000:=by rw[D.size_low];have:=k8.2.2;omega
  have R0:=hide (RowAt.new u 175 #[.int .u16 (type:Int),.int .u8 (alg:Int),.int .u8 (labels:Int),.int .u32 (ttl:Int),.int .u32 (expire:Int),.int .u32 (begin_:Int),.int .u16 (tag:Int),.slice a1 signer.length c1,.slice a2 sig.length c2])
  have B0:=hide ((Below.refl u.heap.size u).alloc (Nat.le_refl _) (.cells #[.int .u16 (type:Int),.int .u8 (alg:Int),.int .u8 (labels:Int),.int .u32 (ttl:Int),.int .u32 (expire:Int),.int .u32 (begin_:Int),.int .u16 (tag:Int),.slice a1 signer.length c1,.slice a2 sig.length c2] 175))
  clear k8
  go_wp2_with fail
  refine (rLower_any signer a1 signer.length c1 _ rfl (by exact S1.out.alloc _) m1).mono ?_
  rintro e w1 ⟨v1,rfl,hO1,hb1⟩
  have hrow:=R0.out.below hb1 (by simp)
  obtain⟨a3,c3,rfl,_,_,_⟩:=hO1.open
  have g0:w1.cell? ⟨u.heap.size,0,none⟩=some (.int .u16 (type:Int)):=hrow.cell 0
  have g1:w1.cell? ⟨u.heap.size,1,none⟩=some (.int .u8 (alg:Int)):=hrow.cell 1
  have g2:w1.cell? ⟨u.heap.size,2,none⟩=some (.int .u8 (labels:Int)):=hrow.cell 2
  have g3:w1.cell? ⟨u.heap.size,3,none⟩=some (.int .u32 (ttl:Int)):=hrow.cell 3
  have g4:w1.cell? ⟨u.heap.size,4,none⟩=some (.int .u32 (expire:Int)):=hrow.cell 4
  have g5:w1.cell? ⟨u.heap.size,5,none⟩=some (.int .u32 (begin_:Int)):=hrow.cell 5
  have g6:w1.cell? ⟨u.heap.size,6,none⟩=some (.int .u16 (tag:Int)):=hrow.cell 6
  have g7:w1.cell? ⟨u.heap.size,7,none⟩=some (.slice a1 signer.length c1):=hrow.cell 7
  have g8:w1.cell? ⟨u.heap.size,8,none⟩=some (.slice a2 sig.length c2):=hrow.cell 8
  have e7:=hrow.frozen 7
  have O1:=hide (own_set (OwnS.lower (base':=u.heap.size) hO1 (by simp)) hrow (by decide) 7 (.slice a3 (N.lowN signer).length c3))
  have B1:=hide (setNew_below (g:=u.heap.size) (j:=7) (v := .slice a3 (N.lowN signer).length c3) (B0.out.trans (hb1.mono (by simp))) (Nat.le_refl _))
  clear hO1 hb1 R0 B0 hrow S1
  go_wp2_with fail
  refine (sSigBytes_any ⟨type,alg,labels,ttl,expire,begin_,tag,N.lowN signer,sig⟩ a3 a2 (N.lowN signer).length c3 sig.length c2 _ rfl rfl (by exact OwnS.sl O1.out) (by exact S2.out.below B1.out (Nat.le_refl _)) NI.out hz1 hz2 k1 k2 k3 k4 k5 k6 k7).mono ?_
  rintro e w2 ⟨v2,rfl,hO2,hb2⟩
  go_wp2
  go_ret2
  have hz:=B1.out.size
  exact⟨Or.inl ⟨_,_,rfl,rfl,(hO2.lower hz).lower P2.out.size⟩,P2.out.trans ((B1.out.trans (hb2.mono hz)).mono P2.out.size)⟩
theorem sCanon_any (t:Nat) (b:List UInt8) (ao:Option Addr) (len cap:Nat) (w:World) (hl:Hid (b.length=len)) (hs:SlL w ao b) (hc:len<=cap) (hnil:ao=none->cap=0) (h8:len<=8192) :
 Calls Tryz.prog 125 #[.int .u16 (t:Int),.slice ao len cap] w fun e w'=>Ans (D.full b (D.can t b)) BytesV (.slice none 0 0) w e w':=by
 by_cases h2:t=2
 ·subst h2;exact rcan_2 b ao len cap w hl hs hc hnil h8
 by_cases h5:t=5
 ·subst h5;exact rcan_5 b ao len cap w hl hs hc hnil h8
 by_cases h15:t=15
 ·subst h15;exact rcan_15 b ao len cap w hl hs hc hnil h8
 by_cases h6:t=6
 ·subst h6;exact rcan_6 b ao len cap w hl hs hc hnil h8
 by_cases h46:t=46
 ·subst h46;exact rcan_46 b ao len cap w hl hs hc hnil h8
 exact rcan_else t b ao len cap w hl hs hc hnil h8 h2 h5 h15 h6 h46
end Go.Proofs.YtmbcegljmhcdeaaGreat
