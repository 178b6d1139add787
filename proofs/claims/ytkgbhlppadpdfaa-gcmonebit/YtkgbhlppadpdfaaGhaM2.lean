/- The mathematics of layer 6: blocks that are not nought can be divided by (Berlekamp's test of x^128 + x^7 + x^2 + x + 1). -/
import Derived.Test.YtkgbhlppadpdfaaGhaM1
namespace Go.Proofs.Ytkgbhlppadpdfaa
set_option linter.unusedVariables false
set_option linter.unusedSimpArgs false

/-- squared, and squared n times -/
def sq (a : Nat) : Nat := mulV a a
def sqN (a : Nat) : Nat → Nat
  | 0 => a
  | n + 1 => sq (sqN a n)
theorem sq_lt (a : Nat) (h : a < 2 ^ 128) : sq a < 2 ^ 128 := mulV_lt a a h
theorem sqN_lt (a n : Nat) (h : a < 2 ^ 128) : sqN a n < 2 ^ 128 := by
  induction n with
  | zero => exact h
  | succ n ih => exact sq_lt _ ih
theorem sq_xor (a b : Nat) (ha : a < 2 ^ 128) (hb : b < 2 ^ 128) : sq (a ^^^ b) = sq a ^^^ sq b := by
  unfold sq
  rw [mulV_xor, mulV_xor_left, mulV_xor_left, mulV_comm b a hb ha, xor4, Nat.xor_comm (mulV a a) (mulV a b), xor4, Nat.xor_self, Nat.zero_xor]
theorem sqN_xor (a b n : Nat) (ha : a < 2 ^ 128) (hb : b < 2 ^ 128) : sqN (a ^^^ b) n = sqN a n ^^^ sqN b n := by
  induction n with
  | zero => rfl
  | succ n ih => rw [sqN, ih, sq_xor _ _ (sqN_lt a n ha) (sqN_lt b n hb)]; rfl
theorem mul4 (a b c d : Nat) (ha : a < 2 ^ 128) (hb : b < 2 ^ 128) (hc : c < 2 ^ 128) (hd : d < 2 ^ 128) : mulV (mulV a b) (mulV c d) = mulV (mulV a c) (mulV b d) := by
  rw [mulV_assoc a b _ ha hb (mulV_lt c d hd), ← mulV_assoc b c d hb hc hd, mulV_comm b c hb hc, mulV_assoc c b d hc hb hd, ← mulV_assoc a c _ ha hc (mulV_lt b d hd)]
theorem sq_mul (a b : Nat) (ha : a < 2 ^ 128) (hb : b < 2 ^ 128) : sq (mulV a b) = mulV (sq a) (sq b) := mul4 a b a b ha hb ha hb
theorem sqN_mul (a b n : Nat) (ha : a < 2 ^ 128) (hb : b < 2 ^ 128) : sqN (mulV a b) n = mulV (sqN a n) (sqN b n) := by
  induction n with
  | zero => rfl
  | succ n ih => rw [sqN, ih, sq_mul _ _ (sqN_lt a n ha) (sqN_lt b n hb)]; rfl
theorem sqN_x : sqN (pw 1) 128 = pw 1 := by decide +kernel
theorem sqN_one : sqN (pw 0) 128 = pw 0 := by
  have h : ∀ n, sqN (pw 0) n = pw 0 := by
    intro n
    induction n with
    | zero => rfl
    | succ n ih => rw [sqN, ih]; exact pw_mul 0 0
  exact h 128
theorem sqN_pw (i : Nat) : sqN (pw i) 128 = pw i := by
  induction i with
  | zero => exact sqN_one
  | succ i ih => rw [← pw_mul i 1, sqN_mul _ _ _ (pw_lt i) (pw_lt 1), ih, sqN_x]
theorem sqN_all (a : Nat) (ha : a < 2 ^ 128) : sqN a 128 = a :=
  lin_ext (fun a => sqN a 128) (fun a => a) (fun a b ha hb => sqN_xor a b 128 ha hb) (fun _ _ _ _ => rfl) (fun i _ => sqN_pw i) a ha

/-- a map that undoes squaring and taking off, up to the bit of x to the 0th -/
def undoL : List Nat := [22349210433241643211303706255459310228, 42781086895802961305837899807692839847, 127851678626037577171681551665634892711, 64161864867486123575827494532326627698, 85316382760920269238759725736663866279, 114910088095513088234682618273958557012, 42894216934927469609366581567841114482, 32564043359013102798989312672802603315, 95950206727199596221990182218906622887, 46326064391129892899928697286047832434, 109593176112373424743067390032837178708, 142223934881672753734463413618344281941, 45552672926497301355174195688401803634, 94354540392079830942767997527157175399, 33893271354798018671893119733082947891, 133492860460135582475628106552095754965, 96614820725092054158442085749046795175, 123504943270841248069084356367027567956, 45993757392183663931702745520977746290, 84108166368187411435240813705953482624, 109427022612900310258954414150302135636, 65334698174074460006561831602428846656, 142140858131936196492406925677076760405, 26944648382676130012539518143993095923, 45594211301365579976202439659035564402, 34751615226583747878589791662865156403, 94333771204645691632253875541840295015, 58594332839845026287895736368243621554, 33882886761080949016636058740424507699, 49689517202507746048320574050840187699, 133487668163277047647999576055766534869, 87518597506017800282691648887090017190, 96617416873521321572256350997211405223, 123492369287794167071922631989304127700, 123506241345055881775991488991109872980, 88394181544543220452557894239097387942, 45994406429290980785156311833018898802, 49921000057622566873658450198655872755, 84108490886741069861967596861974058880, 35809052500604244266195401481916326771, 109427184872177139472317805728312423764, 79569572989071969373811419141996187585, 65334779303712874613243527391433990720, 4726979706471076424241489524707209152, 142140898696755403795747773571579332437, 58275656592714443450777541729474286387, 26944628100266526360869094196741809907, 140308235276560358896028355552301283989, 45594221442570381802037651632661207410, 44935323831971706514111515550899780402, 34751610155981346965672185676052334899, 115575792119390803779456185938199600469, 94333773739946892088712678535246705767, 159324042485362573657552647614603385767, 58594334107495626516125137864946826930, 153238470225796900814681174335121648678, 33882886127255648902521357992072905011, 59792954277794325190837842541115644722, 49689517519420396105377924425015989043, 72978216601350599591347508359916847681, 133487668004820722619470900868678634197, 163309321578052146805450802438263305319, 87518597585245962796955986480633967526, 6161591008139076220601646446843146177, 96617416833907240315124182200439430055, 67288019353279926038130604499846823936, 123492369307601207700488716387690115284, 72992884249465865451566362034747193217, 123506241354959402090274531190302866772, 93226277353508642900164249188457535015, 88394181539591460295416373139500891046, 6116654749483988959971426010360459777, 45994406431766860863727072382817147250, 113870918609522322281985099445019275925, 49921000058860506912943830473554996979, 161537358671016203777973217828391545831, 84108490886122099842324906724524496768, 63089105448741488643398279942380763954, 35809052500294759256374056413191545715, 96504253903287235160744645914913229863, 109427184872331881977228478262674814292, 9537274821874957483351388617584152641, 79569572988994598121356082874814992321, 122557457634345817322758110469731963540, 65334779303751560239471195525024588352, 161542955870533464563010084267448332775, 4726979706490419237355323591502507968, 53639910565545342273528145980335791795, 142140898696765075202304690604976981845, 51613027339492204128265575524803459891, 58275656592719279154056000246173111091, 81071795988965022717357904530596407232, 26944628100264108509229864938392397555, 92325303522414418149753570460923091879, 140308235276559149970208740923126577813, 100983558286137050684044238585428660711, 45594221442569777339127844318073854322, 132003651752985294974180122299820886164, 44935323831972008745566419208193456946, 100972845268357601278728964017462078439, 34751610155981195849944733847405496627, 133436244703473040169882794575366898389, 115575792119390728221592460023876181333, 161752945482599484730126084874801441767, 94333773739946854309780815578084996199, 149021274876537960721224429182834492454, 159324042485362592547018579093184240551, 5725366257701666555538562805218717057, 58594334107495617071392172125656399538, 127777348636302309636952298273557535380, 153238470225796905537047657204766862374, 133385434108064708788808215410435911893, 33882886127255646541338116557250298163, 275464514806027128612938827324864, 59792954277794326371429463258526948146, 12764899024296983899235621676887115841, 49689517519420395515082114066310337331, 126976600203468727039316187211004055892, 72978216601350599296199603180564021825, 108887185710678174598840578861931466132, 133487668004820722767044853458355047125, 126814247099887467207929949960147586332, 163309321578052146879237778733101511783, 72921817864677867521778898634038080609, 87518597585245962833849474628053070758, 71430717218983613641036104277415506289, 6161591008139076202154902373133594561, 0]
def undoN (v : Nat) : Nat → List Nat → Nat
  | _, [] => 0
  | i, l :: ls => sel (bitV v i) l ^^^ undoN v (i + 1) ls
theorem undoN_xor (a b : Nat) (ls : List Nat) : ∀ i, undoN (a ^^^ b) i ls = undoN a i ls ^^^ undoN b i ls := by
  induction ls with
  | nil => intro i; simp [undoN]
  | cons l ls ih => intro i; rw [undoN, undoN, undoN, bitV_xor, sel_xor_left, ih, xor4]
def pwsT : Nat → Nat → Nat → Bool
  | 0, _, _ => true
  | k + 1, i, two => undoN (two ^^^ pw i) 0 undoL == sel (!(i == 0)) (pw i) && pwsT k (i + 1) (upV (upV two))
theorem pwsT_ok : pwsT 128 0 oneV = true := by decide +kernel
theorem pwsT_out : ∀ k i two, pwsT k i two = true → two = pw (2 * i) → ∀ j, i ≤ j → j < i + k → undoN (pw (2 * j) ^^^ pw j) 0 undoL = sel (!(j == 0)) (pw j) := by
  intro k
  induction k with
  | zero => intro i two _ _ j h1 h2; omega
  | succ k ih =>
    intro i two h ht j h1 h2
    rw [pwsT, Bool.and_eq_true, beq_iff_eq] at h
    by_cases hj : j = i
    · subst hj; rw [← ht]; exact h.1
    · exact ih (i + 1) _ h.2 (by rw [ht]; rfl) j (by omega) (by omega)
theorem undo_pw (j : Nat) (hj : j < 128) : undoN (sq (pw j) ^^^ pw j) 0 undoL = sel (!(j == 0)) (pw j) := by
  have := pwsT_out 128 0 oneV pwsT_ok rfl j (by omega) (by omega)
  rwa [show sq (pw j) = pw (2 * j) by unfold sq; rw [pw_mul]; congr 1; omega]
/-- only nought and one are their own squares -/
theorem idem (e : Nat) (he : e < 2 ^ 128) (h : sq e = e) : e = 0 ∨ e = oneV := by
  have key := lin_ext (fun e => undoN (sq e ^^^ e) 0 undoL) (fun e => e ^^^ sel (bitV e 0) oneV)
    (fun a b ha hb => by
      show undoN (sq (a ^^^ b) ^^^ (a ^^^ b)) 0 undoL = _
      rw [sq_xor a b ha hb, xor4, undoN_xor])
    (fun a b ha hb => by
      show (a ^^^ b) ^^^ sel (bitV (a ^^^ b) 0) oneV = _
      rw [bitV_xor, sel_xor_left, xor4])
    (fun i hi => by
      show undoN (sq (pw i) ^^^ pw i) 0 undoL = pw i ^^^ sel (bitV (pw i) 0) oneV
      rw [undo_pw i hi, bitV_pw i 0 hi (by decide)]
      by_cases h0 : i = 0
      · subst h0; show 0 = pw 0 ^^^ pw 0; simp
      · simp [h0, sel])
    e he
  have key' : undoN (sq e ^^^ e) 0 undoL = e ^^^ sel (bitV e 0) oneV := key
  rw [h, Nat.xor_self] at key'
  have h0 : undoN 0 0 undoL = 0 := by have := undoN_xor 0 0 undoL 0; simpa using this
  rw [h0] at key'
  have hx : e = sel (bitV e 0) oneV := by
    have := congrArg (fun z => z ^^^ sel (bitV e 0) oneV) key'
    simp only [Nat.xor_assoc, Nat.xor_self, Nat.xor_zero, Nat.zero_xor] at this
    exact this.symm
  cases hb : bitV e 0
  · left; rw [hx, hb]; rfl
  · right; rw [hx, hb]; rfl
/-- c to the (2^n - 1)-th, and to the one below -/
def lessN (c : Nat) : Nat → Nat
  | 0 => oneV
  | n + 1 => mulV (lessN c n) (sqN c (n + 1))
theorem lessN_lt (c n : Nat) (hc : c < 2 ^ 128) : lessN c n < 2 ^ 128 := by
  cases n with
  | zero => exact oneV_lt
  | succ n => exact mulV_lt _ _ (sqN_lt c (n + 1) hc)
theorem one_mul (a : Nat) (ha : a < 2 ^ 128) : mulV oneV a = a := by rw [mulV_comm _ _ oneV_lt ha, mulV_one a ha]
theorem lessN_mul (c n : Nat) (hc : c < 2 ^ 128) : mulV (mulV (lessN c n) c) c = sqN c (n + 1) := by
  induction n with
  | zero => rw [lessN, one_mul c hc]; rfl
  | succ n ih =>
    have hl := lessN_lt c n hc
    have hs := sqN_lt c (n + 1) hc
    rw [lessN, mulV_assoc (lessN c n) _ c hl hs hc, mulV_comm (sqN c (n + 1)) c hs hc, ← mulV_assoc (lessN c n) c _ hl hc hs, mulV_assoc (mulV (lessN c n) c) _ c (mulV_lt _ _ hc) hs hc,
      mulV_comm (sqN c (n + 1)) c hs hc, ← mulV_assoc (mulV (lessN c n) c) c _ (mulV_lt _ _ hc) hc hs, ih]
    rfl
/-- a block that is not nought has one by which it is one -/
theorem inverse (c : Nat) (hc : c < 2 ^ 128) (h0 : c ≠ 0) : mulV (lessN c 127) c = oneV := by
  have hl := lessN_lt c 127 hc
  have hg := mulV_lt (lessN c 127) c hc
  have h1 : mulV (mulV (lessN c 127) c) c = c := (lessN_mul c 127 hc).trans (sqN_all c hc)
  rcases idem (mulV (lessN c 127) c) hg (by
    unfold sq
    rw [mulV_assoc (lessN c 127) c _ hl hc hg, mulV_comm c _ hc hg, h1]) with h | h
  · rw [h, mulV_comm 0 c (by decide) hc, mulV_zero] at h1
    exact absurd h1.symm h0
  · exact h
theorem mulV_inj (a b c : Nat) (ha : a < 2 ^ 128) (hb : b < 2 ^ 128) (hc : c < 2 ^ 128) (h0 : c ≠ 0) (h : mulV a c = mulV b c) : a = b := by
  have hl := lessN_lt c 127 hc
  have e : ∀ a, a < 2 ^ 128 → mulV (mulV a c) (lessN c 127) = a := fun a ha => by
    rw [mulV_assoc a c _ ha hc hl, mulV_comm c _ hc hl, inverse c hc h0, mulV_one a ha]
  rw [← e a ha, h, e b hb]
end Go.Proofs.Ytkgbhlppadpdfaa
