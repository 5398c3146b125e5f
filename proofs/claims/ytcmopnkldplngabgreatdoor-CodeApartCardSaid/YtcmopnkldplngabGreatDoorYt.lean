/- The numbers of a parsed program are int64s: plain mathematics. -/
import Derived.Test.YtcmopnkldplngabGreatDoorNx
namespace Go.Proofs.YtcmopnkldplngabGreatDoor
set_option linter.unusedVariables false
theorem tok_num {l:List Nat} {t:Tk} (h:tok l=some t) (hk:t.k=1):t.n≤9223372036854775807:=by
 unfold tok at h
 split at h
 · cases h; cases hk
 · split at h
   · unfold num at h
     split at h
     · cases h; assumption
     · cases h
   · split at h
     · obtain ⟨a, _,rfl⟩:=Option.map_eq_some_iff.1 h; cases hk
     · split at h
       · cases h
         dsimp only at hk
         split at hk <;> cases hk
       · obtain ⟨a, _,rfl⟩:=Option.map_eq_some_iff.1 h; cases hk
def Okp (p:Pst):Prop:=p.k=1→(p.n:Int)≤9223372036854775807
def Rok {α:Type} (A:α→Prop) (f:Rr α):Prop:=∀ p x q,Okp p→f p=some (x,q)→A x∧Okp q
section
variable {T:List Nat} {p:Pst}
theorem ok_step:Okp (p.step T):=by
 intro h
 unfold Pst.step at h ⊢
 split at h
 · cases h
 · split at h
   · cases h
   · split at h
     · cases h
     · rename_i h1 h2 _ t ht
       have:=tok_num ht h
       rw [if_neg h1,if_neg h2]
       show (t.n:Int) ≤ _
       omega
theorem ok_fail {e:Nat} (h:Okp p):Okp (p.fail e):=by
 unfold Pst.fail
 split
 · intro h; cases h
 · exact h
theorem ok_one {k:Nat} {s:List (List Nat)} (h:Okp p):Okp (p.one T k s).2:=by
 unfold Pst.one
 split
 · exact ok_step
 · exact h
theorem ok_must {s:List Nat} (h:Okp p):Okp (p.must T s).2:=by
 unfold Pst.must
 split
 · exact ok_fail (ok_one h)
 · exact ok_one h
theorem ok_name (h:Okp p):Okp (p.name T).2:=by
 unfold Pst.name
 split
 · exact ok_step
 · exact ok_fail h
theorem ok_begin (h:Okp p):Okp p.begin:=by
 unfold Pst.begin
 split
 · exact ok_fail (e:=102) h
 · exact h
theorem ok_fin (h:Okp p):Okp p.fin:=h
theorem all_snoc {α:Type} {A:α→Prop} {l:List α} {x:α} (h:∀ y∈l,A y) (hx:A x):∀ y∈l ++ [x],A y:=by
 intro y hy
 rcases List.mem_append.1 hy with hy | hy
 · exact h y hy
 · rw [List.mem_singleton.1 hy]; exact hx
theorem moreF_ok {α:Type} {A:α→Prop} {one:Rr α} (h1:Rok A one):∀ (m:Nat) (l:List α),(∀ x∈l,A x)→Rok (fun l=>∀ x∈l,A x) (moreF T one m l)
 | 0,l,hl=>fun p x q hp h=>by rw [moreF] at h; cases h
 | m + 1,l,hl=>fun p x q hp h=>by
   rw [moreF] at h
   split at h
   · cases h; exact ⟨hl,ok_must (ok_one hp)⟩
   · split at h
     · cases h
     · rename_i y r hy
       obtain ⟨ha,hr⟩:=h1 _ _ _ (ok_one hp) hy
       exact moreF_ok h1 m _ (all_snoc hl ha) _ _ _ hr h
theorem listF_ok {α:Type} {A:α→Prop} {one:Rr α} (h1:Rok A one) (m:Nat):Rok (fun l=>∀ x∈l,A x) (listF T one m):=by
 intro p x q hp h
 unfold listF at h
 split at h
 · cases h; exact ⟨by simp,ok_must hp⟩
 · split at h
   · cases h; exact ⟨by simp,ok_one (ok_must hp)⟩
   · split at h
     · cases h
     · rename_i y r hy
       obtain ⟨ha,hr⟩:=h1 _ _ _ (ok_one (ok_must hp)) hy
       exact moreF_ok h1 m _ (by simpa using ha) _ _ _ hr h
theorem Nbs.of:∀ {l:List Ex},(∀ y∈l,Nb y)→Nbs l
 | [],h=>by rw [Nbs]; trivial
 | x :: r,h=>by rw [Nbs]; exact ⟨h x (by simp),Nbs.of fun y hy=>h y (by simp [hy])⟩
theorem nb_mk {k:Nat} {s:List Nat} {z:Int} {l:List Ex} (hz:z≤9223372036854775807) (h:∀ y∈l,Nb y):Nb (.mk k s z l):=by
 rw [Nb]; exact ⟨hz,Nbs.of h⟩
section
variable {or:Rr Ex} (ho:Rok Nb or)
include ho
theorem withF_ok (m kind:Nat):Rok Nb (withF T or m kind):=by
 intro p x q hp h
 unfold withF at h
 split at h
 · cases h
 · rename_i l r hl
   obtain ⟨ha,hr⟩:=listF_ok ho m _ _ _ (ok_name hp) hl
   cases h
   exact ⟨nb_mk (by decide) ha,hr⟩
theorem keyedF_ok (m:Nat):Rok Nb (keyedF T or m):=by
 intro p x q hp h
 unfold keyedF at h
 split at h
 · cases h; exact ⟨nb_mk (by decide) (by simp),ok_one hp⟩
 · split at h
   · cases h; exact ⟨nb_mk (by decide) (by simp),ok_one hp⟩
   · split at h
     · cases h; exact ⟨nb_mk (by decide) (by simp),ok_one hp⟩
     · split at h
       · split at h
         · cases h
         · rename_i y r hy
           obtain ⟨ha,hr⟩:=ho _ _ _ (ok_must (ok_one hp)) hy
           cases h
           exact ⟨nb_mk (by decide) (by simpa using ha),ok_must hr⟩
       · split at h
         · exact withF_ok ho m _ _ _ _ (ok_one hp) h
         · split at h
           · exact withF_ok ho m _ _ _ _ (ok_one hp) h
           · cases h; exact ⟨nb_mk (by decide) (by simp),ok_fail (ok_one hp)⟩
theorem primaryF_ok (m:Nat):Rok Nb (primaryF T or m):=by
 intro p x q hp h
 unfold primaryF at h
 split at h
 · rename_i h1
   cases h
   exact ⟨nb_mk (hp h1) (by simp),ok_step⟩
 · split at h
   · cases h; exact ⟨nb_mk (by decide) (by simp),ok_step⟩
   · split at h
     · cases h; exact ⟨nb_mk (by decide) (by simp),ok_step⟩
     · split at h
       · exact keyedF_ok ho m _ _ _ hp h
       · split at h
         · cases h
         · rename_i l r hl
           obtain ⟨ha,hr⟩:=listF_ok ho m _ _ _ hp hl
           cases h
           refine ⟨?_,hr⟩
           unfold tupF
           split
           · exact ha _ (by simp)
           · exact nb_mk (by decide) ha
theorem placesF_ok:∀ (m:Nat) (x:Ex),Nb x→Rok Nb (placesF T or m x)
 | 0,x,hx=>fun p y q hp h=>by rw [placesF] at h; cases h
 | m + 1,x,hx=>fun p y q hp h=>by
   rw [placesF] at h
   split at h
   · cases h; exact ⟨hx,ok_one hp⟩
   · split at h
     · cases h
     · rename_i y r hy
       obtain ⟨ha,hr⟩:=ho _ _ _ (ok_one hp) hy
       exact placesF_ok m _ (nb_mk (by decide) (by
         intro z hz
         simp at hz
         rcases hz with rfl | rfl
         · exact hx
         · exact ha)) _ _ _ (ok_must hr) h
theorem postF_ok (m:Nat):Rok Nb (postF T or m):=by
 intro p x q hp h
 unfold postF at h
 split at h
 · cases h
 · rename_i y r hy
   obtain ⟨ha,hr⟩:=primaryF_ok ho m _ _ _ hp hy
   exact placesF_ok ho m _ ha _ _ _ hr h
theorem unaryF_ok (m:Nat):∀ j,Rok Nb (unaryF T or m j)
 | 0=>fun p y q hp h=>by rw [unaryF] at h; cases h
 | j + 1=>fun p y q hp h=>by
   rw [unaryF] at h
   split at h
   · split at h
     · cases h
     · rename_i y r hy
       obtain ⟨ha,hr⟩:=unaryF_ok m j _ _ _ (ok_one (ok_begin hp)) hy
       cases h
       exact ⟨nb_mk (by decide) (by simpa using ha),ok_fin hr⟩
   · split at h
     · cases h
     · rename_i y r hy
       obtain ⟨ha,hr⟩:=postF_ok ho m _ _ _ (ok_one (ok_begin hp)) hy
       cases h
       exact ⟨ha,ok_fin hr⟩
end
theorem twoF_ok {below:Rr Ex} (hb:Rok Nb below) (sg:List (List Nat)):∀ (m:Nat) (x:Ex),Nb x→Rok Nb (twoF T below sg m x)
 | 0,x,hx=>fun p y q hp h=>by
   rw [twoF] at h
   cases h
   exact ⟨hx,hp⟩
 | m + 1,x,hx=>fun p y q hp h=>by
   rw [twoF] at h
   split at h
   · cases h; exact ⟨hx,ok_one hp⟩
   · split at h
     · cases h
     · rename_i y r hy
       obtain ⟨ha,hr⟩:=hb _ _ _ (ok_one hp) hy
       exact twoF_ok hb sg m _ (nb_mk (by decide) (by
         intro z hz
         simp at hz
         rcases hz with rfl | rfl
         · exact hx
         · exact ha)) _ _ _ hr h
theorem twosF_ok {below:Rr Ex} (hb:Rok Nb below) (most:Nat) (sg:List (List Nat)):Rok Nb (twosF T below most sg):=by
 intro p x q hp h
 unfold twosF at h
 split at h
 · cases h
 · rename_i y r hy
   obtain ⟨ha,hr⟩:=hb _ _ _ hp hy
   exact twoF_ok hb sg most _ ha _ _ _ hr h
theorem orF_ok:∀ n,Rok Nb (orF T n)
 | 0=>fun p y q hp h=>by rw [orF] at h; cases h
 | n+1=>fun p y q hp h=>by
   rw [orF] at h
   exact twosF_ok (twosF_ok (twosF_ok (twosF_ok (twosF_ok (unaryF_ok (orF_ok n) n n) _ _) _ _) _ _) _ _) _ _ _ _ _ hp h
theorem NbSs.of:∀ {l:List Sm},(∀ y∈l,NbS y)→NbSs l
 | [],h=>by rw [NbSs]; trivial
 | x :: r,h=>by rw [NbSs]; exact ⟨h x (by simp),NbSs.of fun y hy=>h y (by simp [hy])⟩
theorem nbS_mk {k:Nat} {s:List Nat} {x:List Ex} {b c:List Sm} {ln:Int} (hx:∀ y∈x,Nb y) (hb:∀ y∈b,NbS y) (hc:∀ y∈c,NbS y):NbS (.mk k s x b c ln):=by
 rw [NbS]; exact ⟨Nbs.of hx,NbSs.of hb,NbSs.of hc⟩
theorem stmtsF_ok {stmt:Rr Sm} (hs:Rok NbS stmt):∀ (m:Nat) (l:List Sm),(∀ x∈l,NbS x)→Rok (fun l=>∀ x∈l,NbS x) (stmtsF T stmt m l)
 | 0,l,hl=>fun p x q hp h=>by rw [stmtsF] at h; cases h
 | m + 1,l,hl=>fun p x q hp h=>by
   rw [stmtsF] at h
   split at h
   · cases h; exact ⟨hl,hp⟩
   · split at h
     · cases h; exact ⟨hl,ok_one hp⟩
     · split at h
       · cases h
       · rename_i y r hy
         obtain ⟨ha,hr⟩:=hs _ _ _ (ok_one hp) hy
         exact stmtsF_ok hs m _ (all_snoc hl ha) _ _ _ hr h
theorem bodyF_ok {stmt:Rr Sm} (hs:Rok NbS stmt) (m:Nat):Rok (fun l=>∀ x∈l,NbS x) (bodyF T stmt m):=by
 intro p x q hp h
 unfold bodyF at h
 exact stmtsF_ok hs m [] (by simp) _ _ _ (ok_must hp) h
theorem branchF_ok {or:Rr Ex} (ho:Rok Nb or) {body:Rr (List Sm)} (hb:Rok (fun l=>∀ x∈l,NbS x) body) (kind ln:Nat):Rok NbS (branchF T or body kind ln):=by
 intro p x q hp h
 unfold branchF at h
 split at h
 · cases h
 · rename_i y r hy
   obtain ⟨ha,hr⟩:=ho _ _ _ (ok_must hp) hy
   split at h
   · cases h
   · rename_i b r2 hbd
     obtain ⟨hbb,hr2⟩:=hb _ _ _ (ok_must hr) hbd
     split at h
     · split at h
       · split at h
         · cases h
         · rename_i c u hc
           obtain ⟨hcc,hu⟩:=hb _ _ _ (ok_one hr2) hc
           cases h
           exact ⟨nbS_mk (by simpa using ha) hbb hcc,hu⟩
       · cases h
         exact ⟨nbS_mk (by simpa using ha) hbb (by simp),ok_one hr2⟩
     · cases h
       exact ⟨nbS_mk (by simpa using ha) hbb (by simp),hr2⟩
theorem stmtK_ok {or:Rr Ex} (ho:Rok Nb or) {body:Rr (List Sm)} (hb:Rok (fun l=>∀ x∈l,NbS x) body) (m kind ln:Nat):Rok NbS (stmtK T or body m kind ln):=by
 intro p x q hp h
 unfold stmtK at h
 split at h
 · split at h
   · cases h
   · rename_i y r hy
     obtain ⟨ha,hr⟩:=ho _ _ _ (ok_must (ok_name hp)) hy
     cases h
     exact ⟨nbS_mk (by simpa using ha) (by simp) (by simp),ok_must hr⟩
 · split at h
   · exact branchF_ok ho hb kind ln _ _ _ hp h
   · split at h
     · split at h
       · cases h
       · rename_i y r hy
         obtain ⟨ha,hr⟩:=ho _ _ _ hp hy
         cases h
         exact ⟨nbS_mk (by simpa using ha) (by simp) (by simp),ok_must hr⟩
     · split at h
       · split at h
         · cases h
         · rename_i y r hy
           obtain ⟨ha,hr⟩:=postF_ok ho m _ _ _ hp hy
           split at h
           · cases h
           · rename_i l u hl
             obtain ⟨hll,hu⟩:=listF_ok ho m _ _ _ (ok_name hr) hl
             cases h
             refine ⟨nbS_mk ?_ (by simp) (by simp),ok_must hu⟩
             intro z hz
             rcases List.mem_cons.1 hz with rfl | hz
             · exact ha
             · exact hll z hz
       · split at h
         · split at h
           · cases h
           · rename_i l u hl
             obtain ⟨hll,hu⟩:=listF_ok ho m _ _ _ (ok_name hp) hl
             cases h
             exact ⟨nbS_mk hll (by simp) (by simp),ok_must hu⟩
         · cases h
           exact ⟨nbS_mk (by simp) (by simp) (by simp),ok_must hp⟩
theorem stmtF_ok {or:Rr Ex} (ho:Rok Nb or) (m:Nat):∀ n,Rok NbS (stmtF T or m n)
 | 0=>fun p y q hp h=>by rw [stmtF] at h; cases h
 | n + 1=>fun p y q hp h=>by
   rw [stmtF] at h
   split at h
   · cases h
   · rename_i y r hy
     obtain ⟨ha,hr⟩:=stmtK_ok ho (bodyF_ok (stmtF_ok ho m n) m) m _ _ _ _ _ (ok_one (ok_begin hp)) hy
     cases h
     exact ⟨ha,ok_fin hr⟩
theorem nameP_ok:Rok (fun _ => True) (nameP T):=by
 intro p x q hp h
 unfold nameP at h
 simp only [Option.some.injEq] at h
 have:=congrArg Prod.snd h
 dsimp only at this
 subst this
 exact ⟨trivial,ok_name hp⟩
theorem namedF_ok (n ln:Nat):Rok (fun b:Bd=>NbSs b.st) (namedF T n ln):=by
 intro p x q hp h
 unfold namedF at h
 split at h
 · cases h
 · rename_i l r hl
   obtain ⟨-,hr⟩:=listF_ok nameP_ok n _ _ _ (ok_name hp) hl
   split at h
   · cases h
   · rename_i b u hb
     obtain ⟨hbb,hu⟩:=bodyF_ok (stmtF_ok (orF_ok n) n n) n _ _ _ hr hb
     cases h
     exact ⟨NbSs.of hbb,hu⟩
theorem onsF_ok (n:Nat):∀ (m:Nat) (l:List Bd),(∀ b∈l,NbSs b.st)→Rok (fun l:List Bd=>∀ b∈l,NbSs b.st) (onsF T n m l)
 | 0,l,hl=>fun p x q hp h=>by rw [onsF] at h; cases h
 | m + 1,l,hl=>fun p x q hp h=>by
   rw [onsF] at h
   split at h
   · cases h; exact ⟨hl,hp⟩
   · split at h
     · cases h; exact ⟨hl,ok_one hp⟩
     · split at h
       · cases h
       · rename_i y r hy
         have hp2:Okp (if ((p.one T 5 [[125]]).2.one T 4 [[111,110]]).1=[] then ((p.one T 5 [[125]]).2.one T 4 [[111,110]]).2.fail 101 else ((p.one T 5 [[125]]).2.one T 4 [[111,110]]).2):=by
           split
           · exact ok_fail (ok_one (ok_one hp))
           · exact ok_one (ok_one hp)
         obtain ⟨ha,hr⟩:=namedF_ok n _ _ _ _ hp2 hy
         exact onsF_ok n m _ (all_snoc (A:=fun b:Bd=>NbSs b.st) hl ha) _ _ _ hr h
theorem roleF_ok (n ln:Nat):Rok (fun r:Rl=>∀ b∈r.on,NbSs b.st) (roleF T n ln):=by
 intro p x q hp h
 unfold roleF at h
 split at h
 · cases h
 · rename_i l r hl
   obtain ⟨-,hr⟩:=listF_ok nameP_ok n _ _ _ (ok_name hp) hl
   split at h
   · cases h
   · rename_i b u hb
     obtain ⟨hbb,hu⟩:=onsF_ok n n [] (by simp) _ _ _ (ok_must hr) hb
     cases h
     exact ⟨hbb,hu⟩
theorem progF_ok (n:Nat):∀ (m:Nat) (g:Pg),NbP g→Rok NbP (progF T n m g)
 | 0,g,hg=>fun p x q hp h=>by rw [progF] at h; cases h
 | m + 1,g,hg=>fun p x q hp h=>by
   rw [progF] at h
   split at h
   · cases h; exact ⟨hg,hp⟩
   · split at h
     · split at h
       · cases h
       · rename_i y r hy
         obtain ⟨ha,hr⟩:=namedF_ok n _ _ _ _ (ok_one hp) hy
         exact progF_ok n m { g with fns:=g.fns ++ [y] } ⟨all_snoc (A:=fun b:Bd=>NbSs b.st) hg.1 ha,hg.2⟩ _ _ _ hr h
     · split at h
       · split at h
         · cases h
         · rename_i y r hy
           obtain ⟨ha,hr⟩:=roleF_ok n _ _ _ _ (ok_one hp) hy
           exact progF_ok n m { g with roles:=g.roles ++ [y] } ⟨hg.1,all_snoc (A:=fun r:Rl=>∀ b∈r.on,NbSs b.st) hg.2 ha⟩ _ _ _ hr h
       · exact progF_ok n m _ hg _ _ _ (ok_fail (ok_one hp)) h
end
theorem parse_nb {T:List Nat} {n:Nat} {g:Pg} {er fl:Nat} (h:parseF T n=some (g,er,fl)):NbP g:=by
 have h0:NbP ⟨[],[]⟩:=⟨by simp,by simp⟩
 unfold parseF at h
 split at h
 · cases h
 · rename_i g1 p hr
   unfold readF at hr
   have:=(progF_ok n n _ h0 _ _ _ ok_step hr).1
   split at h
   · cases h; exact h0
   · split at h
     · cases h; exact this
     · cases h; exact h0
end Go.Proofs.YtcmopnkldplngabGreatDoor
